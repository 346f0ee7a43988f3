package keyring

import (
	"bytes"
	"encoding/binary"
	"math"
	"slices"
	"testing"

	"casket/api"
	"casket/merkle"
	"casket/sample"
	"casket/wrap"
)

// ringOf is keys of epochs.
func ringOf(source *sample.Source, epochs ...int) []api.EpochKeys {
	var ring []api.EpochKeys
	for _, epoch := range epochs {
		ring = append(ring, api.EpochKeys{Epoch: epoch, Data: [32]byte(source.Bytes(32)), Tag: [32]byte(source.Bytes(32))})
	}
	return ring
}

// rings are such that may be.
func rings(source *sample.Source) [][]api.EpochKeys {
	var list [][]api.EpochKeys
	for _, epoch := range []int{1, 2, 255, 256, 1<<16 - 1, 1 << 16, 1<<31 - 1, 1 << 31, 1<<32 - 2} {
		list = append(list, ringOf(source, epoch), ringOf(source, epoch, epoch+1))
	}
	return append(list, ringOf(source, 1<<32-1), []api.EpochKeys{{Epoch: 1}}, []api.EpochKeys{{Epoch: 1}, {Epoch: 2}})
}

// wrongRings are such that may not be.
func wrongRings(source *sample.Source) [][]api.EpochKeys {
	list := [][]api.EpochKeys{nil, {}, ringOf(source, 1, 2, 3), make([]api.EpochKeys, 1000)}
	for _, epoch := range []int{math.MinInt, -1, 0, 1 << 32, 1<<32 + 1, math.MaxInt} {
		list = append(list, ringOf(source, epoch))
	}
	for _, both := range [][]int{{1, 1}, {2, 1}, {1, 3}, {0, 1}, {-1, 0}, {1<<32 - 1, 1 << 32}, {1<<32 - 1, 0}, {math.MaxInt, math.MinInt}} {
		list = append(list, ringOf(source, both...))
	}
	return list
}

// wordedBlock is the block of keys, as the chapters 12 and 20 word it.
func wordedBlock(h api.Head, master [32]byte, ring []api.EpochKeys) []byte {
	k, _ := wrap.Keys(h, master, ring)
	b := append([]byte("KEYS"), byte(len(k.Epochs)))
	for _, x := range k.Epochs {
		b = binary.LittleEndian.AppendUint32(b, uint32(x.Epoch))
		b = append(b, x.Wrapped[:]...)
	}
	return filled(b, k.Tag[:])
}

// epochs asks that the stage's block of keys is read.
func (v *volume) epochs(what string, master [32]byte, want []api.EpochKeys) {
	v.t.Helper()
	v.same(what, func() {
		v.t.Helper()
		if got, e := Epochs(v.s, v.h, master); e != api.OK || !slices.Equal(got, want) {
			v.t.Errorf("%s: Epochs: %v, %d, not %v", what, got, e, want)
		}
	})
}

func epochsRefused(t *testing.T, what string, s *merkle.Stage, h api.Head, master [32]byte, want api.Errno) {
	t.Helper()
	if got, e := Epochs(s, h, master); len(got) != 0 || e != want {
		t.Errorf("%s: Epochs: %v, %d, not %d", what, got, e, want)
	}
}

// P21.3: the block of keys is as the chapters word it, lies behind the slots, and tells the keys again, wherever it lies.
func TestKeysAndEpochs(t *testing.T) {
	source := sample.Source(11)
	for i, ring := range rings(&source) {
		v := newVolume(t, 1+i%8)
		v.h.Name = [16]byte(source.Bytes(16))
		master := [32]byte(source.Bytes(32))
		r, e := Keys(v.h, master, ring)
		if want := wordedBlock(v.h, master, ring); e != api.OK || r.Block != 2+v.h.Slots || !bytes.Equal(r.Bytes, want) {
			t.Fatalf("Keys: block %d, %x, %d, not %x", r.Block, r.Bytes, e, want)
		}
		for where := range 3 {
			v.put(where, r.Block, r.Bytes)
			v.epochs("what was wrapped", master, ring)
			v.open()
		}
	}
}

// P21.3: what wrap.Keys refuses.
func TestKeysAreRefused(t *testing.T) {
	source := sample.Source(12)
	right := ringOf(&source, 1)
	for _, ring := range wrongRings(&source) {
		r, e := Keys(headOf(2), masterKey, ring)
		redoRefused(t, "a ring: Keys", r, e, api.ErrArg)
	}
	for _, h := range sample.WrongHeads(headOf(2)) {
		r, e := Keys(h, masterKey, right)
		redoRefused(t, "a header: Keys", r, e, api.ErrArg)
		r, e = Keys(h, masterKey, nil)
		redoRefused(t, "a header and no ring: Keys", r, e, api.ErrArg)
	}
}

// P21.3: no stage, headers that may not be, ahead of reading; then what reading refuses.
func TestEpochsOfWrongArguments(t *testing.T) {
	source := sample.Source(13)
	ring := ringOf(&source, 3, 4)
	v := newVolume(t, 3)
	for range 2 {
		v.same("refused", func() {
			epochsRefused(t, "no stage", nil, v.h, masterKey, api.ErrArg)
			for _, h := range sample.WrongHeads(v.h) {
				epochsRefused(t, "a header", v.s, h, masterKey, api.ErrArg)
				epochsRefused(t, "a header and no stage", nil, h, masterKey, api.ErrArg)
			}
		})
		v.d.Stop(0)
	}
	v.same("off", func() { epochsRefused(t, "off", v.s, v.h, masterKey, api.ErrIO) })
	v.put(onStage, 5, wordedBlock(v.h, masterKey, ring)) // the slots are not asked for
	v.epochs("off, but the block of keys is staged", masterKey, ring)
}

// P21.3: each bit of the block of keys, of the master key and of the name.
func TestEpochsOfEachBit(t *testing.T) {
	source := sample.Source(14)
	v := newVolume(t, 2)
	for _, ring := range [][]api.EpochKeys{ringOf(&source, 7), ringOf(&source, 7, 8)} {
		right := wordedBlock(v.h, masterKey, ring)
		for bit := range 8 * 512 {
			v.put(onStage, 4, turned(right, bit))
			epochsRefused(t, "a bit of the block", v.s, v.h, masterKey, api.ErrIntegrity)
		}
		v.put(onStage, 4, right)
		for bit := range 256 {
			epochsRefused(t, "a bit of the master key", v.s, v.h, [32]byte(turned(masterKey[:], bit)), api.ErrIntegrity)
		}
		for bit := range 128 {
			h := v.h
			h.Name = [16]byte(turned(h.Name[:], bit))
			epochsRefused(t, "a bit of the name", v.s, h, masterKey, api.ErrIntegrity)
		}
		v.epochs("as it was", masterKey, ring)
	}
}

// P21.3: blocks that are none of keys.
func TestEpochsOfOtherBlocks(t *testing.T) {
	source := sample.Source(15)
	v := newVolume(t, 2)
	right := wordedBlock(v.h, masterKey, ringOf(&source, 1, 2))
	for _, b := range [][]byte{
		make([]byte, 512),
		source.Bytes(512),
		active(v.h, masterKey, "one", [16]byte{1}),
		filled([]byte("KEYS")),
		filled([]byte("KEYS"), []byte{1}),
		filled([]byte("KEYS"), []byte{255}, right[5:]),
		filled([]byte("SLOT"), right[4:]),
		filled(right[:5], right[5+68:5+136], right[5:5+68], right[5+136:]),
	} {
		v.put(onStage, 4, b)
		v.same("another block", func() { epochsRefused(t, "another block", v.s, v.h, masterKey, api.ErrIntegrity) })
	}
	v.put(onStage, 4, right)
	v.h.Slots = 3
	epochsRefused(t, "the block behind it", v.s, v.h, masterKey, api.ErrIntegrity)
}

// R3: rings are left alone, and answers are new memory.
func TestKeysMemory(t *testing.T) {
	source := sample.Source(16)
	v := newVolume(t, 2)
	ring := ringOf(&source, 1, 2, 3)
	kept := slices.Clone(ring)
	r, _ := Keys(v.h, masterKey, ring[:2])
	if !slices.Equal(ring, kept) {
		t.Error("a ring was changed")
	}
	if wrong := sample.NotNew(func() []byte { r, _ := Keys(v.h, masterKey, kept[:2]); return r.Bytes }); wrong != "" {
		t.Errorf("Keys: %s", wrong)
	}
	v.put(onStage, r.Block, r.Bytes)
	first, _ := Epochs(v.s, v.h, masterKey)
	if behind := first[2:cap(first)]; slices.ContainsFunc(behind, func(k api.EpochKeys) bool { return k != api.EpochKeys{} }) {
		t.Error("something is in the room behind the ring")
	}
	clear(first[:cap(first)])
	v.epochs("behind an answer that was changed", masterKey, kept[:2])
}
