package volume

import (
	"bytes"
	"testing"

	"casket/api"
	"casket/disk"
	"casket/sample"
)

// someVolume is a closed one, with what it should read, and elder images of its disk.
func someVolume(t *testing.T) (*disk.Disk, *state, []*disk.Disk) {
	t.Helper()
	source := sample.Source(31)
	h := newHistory(t, headOf(20, 3, 4, 24))
	var elder []*disk.Disk
	keep := func() {
		h.flush()
		elder = append(elder, h.d.Fork())
	}
	keep()
	for n := range 18 {
		h.write(n, source.Bytes(512))
	}
	keep()
	h.slotAdd(1, "two", saltOf(1))
	h.rekey()
	h.rekey()
	keep()
	for h.last().rekeying {
		h.rekey()
	}
	h.slotAdd(2, "three", saltOf(2))
	keep()
	for _, n := range []int{3, 4, 9, 19} {
		h.write(n, source.Bytes(512))
	}
	h.slotRevoke(2) // all blocks are home then
	if e := h.v.Close(); e != api.OK {
		t.Fatal("Close", e)
	}
	return h.d, h.last(), elder
}

// looks asks that a disk that somebody rewrote is refused, or each of its sectors is, or reads what was written. It tells how many do.
func looks(t *testing.T, what string, d *disk.Disk, s *state) (right, refused int) {
	t.Helper()
	v, e := Open(d, []byte("one"))
	if e == api.ErrFormat || e == api.ErrNoKey || e == api.ErrIntegrity {
		return 0, s.h.Sectors
	}
	if e != api.OK {
		t.Fatalf("%s: Open: %d", what, e)
	}
	for n := range s.h.Sectors {
		b, e := v.Read(n)
		switch {
		case e == api.OK && bytes.Equal(b, s.has(n)):
			right++
		case e == api.ErrIntegrity && len(b) == 0:
			refused++
		default:
			t.Fatalf("%s: sector %d: %d, or not what was written", what, n, e)
		}
	}
	return right, refused
}

// P6, P24.4: somebody rewrites one block of a closed volume: what is not what was written is refused, and the volume goes on.
func TestOneBlockIsRewritten(t *testing.T) {
	source := sample.Source(32)
	d, s, elder := someVolume(t)
	l := layoutOf(t, s.h)
	for block := range d.Len() {
		right := d.Sure(block)
		contents := [][]byte{make([]byte, 512), source.Bytes(512), d.Sure((block + 1) % d.Len()), d.Sure(l.Root), d.Sure(0)}
		for range 8 {
			b := bytes.Clone(right)
			b[source.Below(512)] ^= 1 << source.Below(8)
			contents = append(contents, b)
		}
		for _, x := range elder {
			contents = append(contents, x.Sure(block))
		}
		for _, b := range contents {
			x := d.Fork()
			x.Tamper(block, b)
			good, refused := looks(t, "a block", x, s)
			if bytes.Equal(b, right) {
				if refused > 0 {
					t.Errorf("block %d is as it was, and %d are refused", block, refused)
				}
				continue
			}
			n := block - l.Data
			written := n >= 0 && s.sectors[n] != nil
			switch {
			case block < 2 && good != 20: // the other header is there
				t.Errorf("header %d: %d are refused", block, refused)
			case block == l.Keys && good > 20-len(s.sectors): // elder keys open it: those never written read zeros
				t.Errorf("the block of keys: %d are right", good)
			case (block == l.Root || block == l.Tree) && refused != 20:
				t.Errorf("block %d: %d are right", block, good)
			case block >= l.Tags && block < l.Data && refused != min(8, 20-8*(block-l.Tags)):
				t.Errorf("block %d of tags: %d are refused", block-l.Tags, refused)
			case written && refused != 1, n >= 0 && !written && refused != 0:
				t.Errorf("sector %d: %d are refused", n, refused)
			}
		}
	}
}

// P6: somebody rewrites many blocks, with elder ones, or others': each sector that reads has what was written, but where an elder root's block is back.
func TestManyBlocksAreRewritten(t *testing.T) {
	source := sample.Source(33)
	d, s, elder := someVolume(t)
	l := layoutOf(t, s.h)
	seen := 0
	for range 400 {
		x := d.Fork()
		for range 1 + source.Below(6) {
			block := source.Below(d.Len())
			if block == l.Root {
				continue
			}
			switch source.Below(3) {
			case 0:
				x.Tamper(block, elder[source.Below(len(elder))].Sure(block))
			case 1:
				x.Tamper(block, d.Sure(source.Below(d.Len())))
			case 2:
				x.Tamper(block, source.Bytes(512))
			}
		}
		if right, refused := looks(t, "many blocks", x, s); right > 0 && refused > 0 {
			seen++
		}
	}
	if seen < 50 {
		t.Errorf("%d disks read in part", seen)
	}
	// The whole elder disk reads as it did then: that is what an elder root's block brings back.
	for _, x := range elder {
		opened(t, x, "one")
	}
}

// P24.4: ErrIntegrity of one sector, and the volume goes on: it is written anew, and reads.
func TestVolumeGoesOn(t *testing.T) {
	d, s, _ := someVolume(t)
	l := layoutOf(t, s.h)
	d.Tamper(l.Data+3, sample.Bytes(512))
	v := opened(t, d, "one")
	s.opens("one")
	reads := func(n int, want api.Errno) {
		t.Helper()
		if b, e := v.Read(n); e != want || e == api.OK && !bytes.Equal(b, s.has(n)) {
			t.Errorf("sector %d: %d, not %d, or other bytes", n, e, want)
		}
	}
	reads(3, api.ErrIntegrity)
	for n := range 20 {
		if n != 3 {
			reads(n, api.OK)
		}
	}
	if e := v.RekeyStart(keysOf(9)); e != api.OK || s.rekeyStart() != api.OK {
		t.Errorf("RekeyStart: %d", e)
	}
	if done, e := v.RekeyStep(); done || e != api.ErrIntegrity {
		t.Errorf("RekeyStep: %v, %d", done, e)
	}
	x := bytes.Repeat([]byte("x"), 512)
	if e := v.Write(3, x); e != api.OK || s.write(3, x) != api.OK {
		t.Errorf("Write: %d", e)
	}
	for n := range 20 {
		reads(n, api.OK)
	}
	for done := false; !done; {
		var e api.Errno
		if done, e = v.RekeyStep(); e != api.OK {
			t.Fatal("RekeyStep", e)
		}
		s.rekeyStep()
	}
	if i, e := v.Info(); e != api.OK {
		t.Errorf("Info: %d", e)
	} else if want, _ := s.info(); !sameInfo(i, want) {
		t.Errorf("%+v, not %+v", i, want)
	}
	v = opened(t, d, "one")
	for n := range 20 {
		reads(n, api.OK)
	}
}

// The document's ten examples of the whole.
func TestTenExamples(t *testing.T) {
	source := sample.Source(34)
	h := headOf(10, 2, 4, 20)
	l := layoutOf(t, h)
	x, zeros := source.Bytes(512), make([]byte, 512)
	reads := func(what string, v *Volume, n int, want ...[]byte) {
		t.Helper()
		b, e := v.Read(n)
		if e != api.OK {
			t.Errorf("%s: sector %d: %d", what, n, e)
		}
		for _, w := range want {
			if bytes.Equal(b, w) {
				return
			}
		}
		t.Errorf("%s: sector %d: other bytes", what, n)
	}
	base := formatted(t, h, "one")
	for n := range 10 {
		reads("1", opened(t, base, "one"), n, zeros)
	}

	d := base.Fork()
	v := opened(t, d, "one")
	v.Write(3, x)
	for keep := range source.Keeps(d.Unsure(), 20) {
		other := d.Fork()
		other.Crash(keep)
		reads("2", opened(t, other, "one"), 3, zeros, x)
	}
	v.Flush()
	d.Crash(nil)
	reads("3", opened(t, d, "one"), 3, x)

	v = opened(t, d, "one")
	v.SlotAdd(1, []byte("two"), saltOf(1))
	v.SlotRevoke(1) // all blocks are home then
	v.Close()
	turn := func(block int) *disk.Disk {
		other := d.Fork()
		b := other.Sure(block)
		b[100] ^= 4
		other.Tamper(block, b)
		return other
	}
	v = opened(t, turn(l.Data+3), "one")
	if b, e := v.Read(3); len(b) != 0 || e != api.ErrIntegrity {
		t.Errorf("4: %d", e)
	}
	reads("4", v, 4, zeros)
	opensNot(t, "5", turn(l.Root), "one", api.ErrIntegrity)
	reads("6", opened(t, turn(0), "one"), 3, x)
	reads("6", opened(t, turn(1), "one"), 3, x)

	v = opened(t, d, "one")
	if v.SlotAdd(1, []byte("two"), saltOf(1)) != api.OK || v.SlotRevoke(0) != api.OK {
		t.Error("7: SlotAdd, SlotRevoke")
	}
	opensNot(t, "7", d, "one", api.ErrNoKey)
	v = opened(t, d, "two")
	if e := v.SlotRevoke(1); e != api.ErrLast {
		t.Errorf("8: %d", e)
	}

	v.RekeyStart(keysOf(2))
	v.RekeyStep()
	d.Crash(nil)
	v = opened(t, d, "two")
	for done, steps := false, 0; !done; steps++ {
		var e api.Errno
		if done, e = v.RekeyStep(); e != api.OK || steps > 3 {
			t.Fatal("9: RekeyStep", e)
		}
	}
	reads("9", v, 3, x)
	reads("9", v, 4, zeros)

	d.Stop(0)
	if e := v.Flush(); e != api.ErrIO {
		t.Errorf("10: %d", e)
	}
	refusedBy(t, "10", v, api.ErrIO)
	d.Crash(nil)
	reads("10", opened(t, d, "two"), 3, x)
}
