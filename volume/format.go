package volume

import (
	"slices"

	"casket/api"
	"casket/disk"
	"casket/head"
	"casket/journal"
	"casket/keyring"
	"casket/merkle"
	"casket/seal"
	"casket/slot"
	"casket/wrap"
)

const (
	firstHead  = 0 // the blocks of the header's two copies
	secondHead = 1
	firstEpoch = 1
	keySize    = 32
)

// maker is what a volume is made of.
type maker struct {
	disk     *disk.Disk
	head     api.Head
	layout   api.Layout
	password []byte
	fresh    api.Fresh
}

// Format makes a disk a volume whose sectors were never written. Old headers go ahead of all else, and the new ones come behind it: a crash in between leaves no volume, not half of one.
func Format(d *disk.Disk, h api.Head, password []byte, f api.Fresh) api.Errno {
	l, e := head.Layout(h)
	if d == nil || e != api.OK || isLong(password) || d.Len() < l.Blocks {
		return api.ErrArg
	}
	m := maker{disk: d, head: h, layout: l, password: password, fresh: f}
	return inOrder(
		m.clearHeads, d.Flush,
		m.writeSlots, m.writeKeys, m.writeRoot, m.writeTree, m.clearTags, m.beginJournal,
		m.writeHeads, d.Flush,
	)
}

func (m maker) clearHeads() api.Errno {
	return m.write(firstHead, zeros(2)...)
}

// writeSlots gives the first slot to the passphrase.
func (m maker) writeSlots() api.Errno {
	x, e := wrap.Wrap(m.head, m.fresh.Master, m.password, m.fresh.Salt)
	if e != api.OK {
		return e
	}
	b, e := slot.EncodeSlot(x)
	if e != api.OK {
		return e
	}
	return m.write(m.layout.Slots, append([][]byte{b}, zeros(m.head.Slots-1)...)...)
}

func (m maker) writeKeys() api.Errno {
	k := api.EpochKeys{Epoch: firstEpoch, Data: [32]byte(m.fresh.Keys[:keySize]), Tag: [32]byte(m.fresh.Keys[keySize:])}
	x, e := keyring.Keys(m.head, m.fresh.Master, []api.EpochKeys{k})
	if e != api.OK {
		return e
	}
	return m.write(x.Block, x.Bytes)
}

func (m maker) writeRoot() api.Errno {
	_, root := merkle.Fresh(m.layout)
	b, e := seal.RootBlock(wrap.Root(m.fresh.Master), m.head, api.Root{Tree: root})
	if e != api.OK {
		return e
	}
	return m.write(m.layout.Root, b)
}

func (m maker) writeTree() api.Errno {
	levels, _ := merkle.Fresh(m.layout)
	return m.write(m.layout.Tree, slices.Concat(levels...)...)
}

func (m maker) clearTags() api.Errno {
	return m.write(m.layout.Tags, zeros(merkle.Leaves(m.layout))...)
}

func (m maker) beginJournal() api.Errno {
	return journal.Init(m.disk, m.layout.Journal, m.head.Journal)
}

func (m maker) writeHeads() api.Errno {
	b, e := head.Encode(m.head)
	if e != api.OK {
		return e
	}
	return m.write(firstHead, b, b)
}

// write writes blocks one behind the other, from a place on.
func (m maker) write(at int, blocks ...[]byte) api.Errno {
	for i, b := range blocks {
		if e := m.disk.Write(at+i, b); e != api.OK {
			return e
		}
	}
	return api.OK
}

// zeros are blocks of zeros. They share their memory: a disk keeps copies.
func zeros(count int) [][]byte {
	return slices.Repeat([][]byte{make([]byte, api.BlockSize)}, count)
}
