package sector

import (
	"slices"

	"casket/api"
	"casket/merkle"
	"casket/seal"
)

// work is a change on its way: the blocks that are staged, and the ring and the root as they will be. Each has a stage of its own, so that of work that is refused nothing stays staged.
type work struct {
	*merkle.Stage
	layout api.Layout
	ring   []api.EpochKeys
	root   api.Root
}

// sector is what sector n has, and the epoch under which it lies: zeros and 0, if it was never written.
func (w *work) sector(n int) ([]byte, int, api.Errno) {
	tags, e := w.tags(n)
	if e != api.OK {
		return nil, 0, e
	}
	record, e := seal.Record(tags, n)
	if e != api.OK {
		return nil, 0, e
	}
	epoch, e := seal.Epoch(record)
	if e != api.OK {
		return nil, 0, e
	}
	if epoch == 0 {
		return make([]byte, api.BlockSize), 0, api.OK
	}
	b, e := w.open(n, epoch, record)
	if e != api.OK {
		return nil, 0, e
	}
	return b, epoch, api.OK
}

// open is what sector n has by its record, which is of that epoch.
func (w *work) open(n, epoch int, record [64]byte) ([]byte, api.Errno) {
	k, e := w.keys(ofEpoch(epoch))
	if e != api.OK {
		return nil, e
	}
	sealed, e := w.Read(w.layout.Data + n)
	if e != api.OK {
		return nil, e
	}
	return seal.Open(k, n, sealed, record)
}

// change stages other bytes of sector n, sealed by its keys, with its record and what follows from that in the tree.
func (w *work) change(n int, b []byte) api.Errno {
	tags, e := w.tags(n)
	if e != api.OK {
		return e
	}
	k, e := w.keys(w.ofSector(n))
	if e != api.OK {
		return e
	}
	sealed, record, e := seal.Seal(k, n, b)
	if e != api.OK {
		return e
	}
	changed, e := seal.With(tags, n, record)
	if e != api.OK {
		return e
	}
	w.root.Tree, e = merkle.Change(w.Stage, w.layout, n/api.PerTags, changed, w.root.Tree)
	if e != api.OK {
		return e
	}
	return w.Write(w.layout.Data+n, sealed)
}

// renew seals sector n anew. One that was never written has nothing to seal.
func (w *work) renew(n int) api.Errno {
	b, epoch, e := w.sector(n)
	if e != api.OK || epoch == 0 {
		return e
	}
	return w.change(n, b)
}

// tags is the block of tags of sector n, if it is right by the root.
func (w *work) tags(n int) ([]byte, api.Errno) {
	return merkle.Check(w.Stage, w.layout, n/api.PerTags, w.root.Tree)
}

// add stages a block that is not staged yet: a transaction has no block twice, and a stage would hide that.
func (w *work) add(n int, b []byte) api.Errno {
	staged := w.Len()
	if w.Write(n, b) != api.OK || w.Len() == staged {
		return api.ErrArg
	}
	return api.OK
}

// keys are the first ones of the ring that are those looked for.
func (w *work) keys(wanted func(k api.EpochKeys) bool) (api.EpochKeys, api.Errno) {
	place := slices.IndexFunc(w.ring, wanted)
	if place < 0 {
		return api.EpochKeys{}, api.ErrIntegrity
	}
	return w.ring[place], api.OK
}

// ofEpoch looks for an epoch's keys.
func ofEpoch(epoch int) func(k api.EpochKeys) bool {
	return func(k api.EpochKeys) bool { return k.Epoch == epoch }
}

// ofSector looks for those by which sector n is to be sealed.
func (w *work) ofSector(n int) func(k api.EpochKeys) bool {
	epoch := w.ring[0].Epoch
	if w.root.Rekeying && n < w.root.Frontier {
		epoch++
	}
	return ofEpoch(epoch)
}
