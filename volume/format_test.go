package volume

import (
	"bytes"
	"slices"
	"strings"
	"testing"

	"casket/api"
	"casket/disk"
	"casket/journal"
	"casket/sample"
	"casket/sha"
)

// markBlock is a journal's mark that begins so.
func markBlock(b []byte) []byte {
	digest := sha.Sum(b)
	block := make([]byte, 512)
	copy(block, slices.Concat(b, digest[:]))
	return block
}

// heads are headers of many shapes.
func heads() []api.Head {
	named := headOf(40, 2, 4, 20)
	named.Name = [16]byte{}
	named.Generation = 1<<64 - 1
	costly := headOf(9, 3, 2, 16)
	costly.Params = api.Params{Time: 2, Memory: 32, Lanes: 3}
	return []api.Head{
		headOf(1, 1, 1, 16), headOf(8, 2, 6, 16), headOf(9, 8, 16, 26), headOf(127, 3, 5, 40),
		headOf(129, 2, 16, 256), headOf(1024, 8, 16, 64), named, costly,
	}
}

// dirtyDisk is one on which something else lies.
func dirtyDisk(blocks int) *disk.Disk {
	source := sample.Source(blocks)
	d, _ := disk.New(blocks)
	for n := range blocks {
		d.Tamper(n, source.Bytes(512))
	}
	return d
}

// P24.1: just these writes and flushes, in this order; what the disk refuses is told at once.
func TestFormatInOrder(t *testing.T) {
	for _, h := range heads() {
		ops := wordsOfFormat(t, h, "one", freshOf(1))
		base := dirtyDisk(layoutOf(t, h).Blocks + h.Slots%2)
		base.Write(5, make([]byte, 512)) // the first flush makes it sure too
		for stop := 0; stop <= len(ops)+1; stop++ {
			if len(ops) > 60 && stop > 20 && stop < len(ops)-20 && stop%7 != 0 {
				continue // it would be many alike
			}
			d, twin := base.Fork(), base.Fork()
			d.Stop(stop)
			twin.Stop(stop)
			for _, x := range ops[:min(stop, len(ops))] {
				e := api.OK
				if x.block == flushing {
					e = twin.Flush()
				} else {
					e = twin.Write(x.block, x.bytes)
				}
				if e != api.OK {
					t.Fatal("the twin", e)
				}
			}
			want := api.ErrIO
			if stop >= len(ops) {
				want = api.OK
			}
			if e := Format(d, h, []byte("one"), freshOf(1)); e != want || !sample.SameDisks(d, twin) {
				t.Fatalf("%+v, cut off behind %d of %d: %d, or another disk", h, stop, len(ops), e)
			}
		}
	}
}

// P24.1: the fresh bytes and the passphrase are used as they are, at the longest too.
func TestFormatOfOtherSecrets(t *testing.T) {
	h := headOf(9, 2, 2, 16)
	for number, password := range []string{"", "x", strings.Repeat("y", 511), string(sample.Bytes(512))} {
		d, _ := disk.New(layoutOf(t, h).Blocks)
		twin := d.Fork()
		for _, x := range wordsOfFormat(t, h, password, freshOf(number)) {
			if x.block == flushing {
				twin.Flush()
			} else {
				twin.Write(x.block, x.bytes)
			}
		}
		if e := Format(d, h, []byte(password), freshOf(number)); e != api.OK || !sample.SameDisks(d, twin) {
			t.Errorf("%d bytes: %d, or another disk", len(password), e)
		}
		opened(t, d, password)
		opensNot(t, "another one", d, password+"z", map[bool]api.Errno{true: api.ErrArg, false: api.ErrNoKey}[len(password) == 512])
	}
	// Each byte that is brought matters.
	base := formatted(t, h, "one")
	for part, change := range []func(f *api.Fresh){
		func(f *api.Fresh) { f.Master[31]++ }, func(f *api.Fresh) { f.Salt[15]++ },
		func(f *api.Fresh) { f.Keys[0]++ }, func(f *api.Fresh) { f.Keys[31]++ }, func(f *api.Fresh) { f.Keys[32]++ }, func(f *api.Fresh) { f.Keys[63]++ },
	} {
		d, f := base.Fork(), freshOf(1)
		change(&f)
		if e := Format(d, h, []byte("one"), f); e != api.OK || sample.SameDisks(d, base) {
			t.Errorf("part %d: %d, or the same disk", part, e)
		}
	}
}

// P24.1: what may not be, ahead of writing.
func TestFormatOfWrongArguments(t *testing.T) {
	h := headOf(20, 2, 4, 20)
	blocks := layoutOf(t, h).Blocks
	refused := func(what string, d *disk.Disk, h api.Head, password []byte) {
		t.Helper()
		before := d.Fork()
		if e := Format(d, h, password, freshOf(1)); e != api.ErrArg {
			t.Errorf("%s: %d", what, e)
		}
		if d != nil && !sample.SameDisks(d, before) {
			t.Errorf("%s: the disk is another one", what)
		}
	}
	for _, off := range []bool{false, true} {
		disks := map[int]*disk.Disk{}
		for _, count := range []int{1, 2, blocks - 1, blocks, 4096} {
			disks[count] = dirtyDisk(count)
			if off {
				disks[count].Stop(0)
			}
		}
		refused("no disk", nil, h, []byte("one"))
		for _, wrong := range sample.WrongHeads(h) {
			refused("a header", disks[4096], wrong, []byte("one"))
		}
		for _, size := range []int{513, 514, 1024, 70000} {
			refused("a passphrase", disks[4096], h, make([]byte, size))
			refused("a passphrase, no disk", nil, h, make([]byte, size))
		}
		for _, count := range []int{1, 2, blocks - 1} {
			refused("a disk", disks[count], h, []byte("one"))
		}
	}
	for _, count := range []int{blocks, blocks + 1, 4096} {
		d := dirtyDisk(count)
		before := d.Fork()
		if e := Format(d, h, make([]byte, 512), freshOf(1)); e != api.OK {
			t.Errorf("%d blocks: %d", count, e)
		}
		for n := blocks; n < count; n++ {
			if !bytes.Equal(d.Sure(n), before.Sure(n)) {
				t.Fatalf("block %d, behind the volume's, is another one", n)
			}
		}
	}
}

// P24.1, P24.2: the chapter's example, over whatever the disk had.
func TestFormatThenOpen(t *testing.T) {
	for _, h := range heads() {
		d := dirtyDisk(layoutOf(t, h).Blocks)
		if e := Format(d, h, []byte("one"), freshOf(1)); e != api.OK {
			t.Fatal("Format", e)
		}
		v := opened(t, d, "one")
		for n := range h.Sectors {
			if b, e := v.Read(n); e != api.OK || !bytes.Equal(b, make([]byte, 512)) {
				t.Fatalf("sector %d: %d, or not zeros", n, e)
			}
		}
		want := api.Info{Head: h, Slots: make([]bool, h.Slots), Epoch: 1}
		want.Slots[0] = true
		if i, e := v.Info(); e != api.OK || !sameInfo(i, want) {
			t.Errorf("Info: %+v, %d", i, e)
		}
		opensNot(t, "another one", d, "two", api.ErrNoKey)
		opensNot(t, "none", d, "", api.ErrNoKey)
	}
}

// P24.1: a crash in the middle of it, whatever lasts: there is no volume, or the new one, never the old one, nor half of one.
func TestFormatCrashes(t *testing.T) {
	source := sample.Source(1)
	h := headOf(20, 2, 4, 20)
	base := formatted(t, h, "old")
	old := opened(t, base, "old")
	for n := range 20 {
		if e := old.Write(n, source.Bytes(512)); e != api.OK {
			t.Fatal("Write", e)
		}
	}
	if e := old.SlotAdd(1, []byte("elder"), saltOf(7)); e != api.OK {
		t.Fatal("SlotAdd", e)
	}
	other := headOf(18, 2, 3, 16) // its parts lie elsewhere
	other.Name[0]++
	for _, h := range []api.Head{h, other} {
		gone, there := 0, 0
		for stop := range len(wordsOfFormat(t, h, "new", freshOf(2))) {
			d := base.Fork()
			d.Stop(stop)
			if e := Format(d, h, []byte("new"), freshOf(2)); e != api.ErrIO {
				t.Fatal("Format", e)
			}
			for keep := range source.Keeps(d.Unsure(), 20) {
				x := d.Fork()
				x.Crash(keep)
				if v, e := Open(x, []byte("new")); e == api.OK {
					there++
					for n := range h.Sectors {
						if b, e := v.Read(n); e != api.OK || !bytes.Equal(b, make([]byte, 512)) {
							t.Fatalf("sector %d: %d, or not zeros", n, e)
						}
					}
					opensNot(t, "the old one", x, "old", api.ErrNoKey)
				} else if stop < 3 && e == api.ErrNoKey {
					opened(t, x, "old") // one of its headers lasted
				} else {
					gone++
					for _, password := range []string{"new", "old", "elder"} {
						opensNot(t, "between", x, password, api.ErrFormat)
					}
				}
			}
		}
		if gone < 100 || there == 0 {
			t.Errorf("%d crashes left nothing, %d the new volume", gone, there)
		}
	}
}

// P24.1, P24.8: a volume that was formatted anew, over one whose journal was full, is without what that had.
func TestFormatAnew(t *testing.T) {
	source := sample.Source(2)
	h := headOf(20, 2, 4, 40)
	d := formatted(t, h, "old")
	v := opened(t, d, "old")
	for range 9 {
		v.Write(source.Below(20), source.Bytes(512))
	}
	v.SlotAdd(1, []byte("elder"), saltOf(7))
	if e := v.Close(); e != api.OK {
		t.Fatal("Close", e)
	}
	if e := Format(d, h, []byte("new"), freshOf(2)); e != api.OK {
		t.Fatal("Format", e)
	}
	if _, found, e := journal.Open(d, layoutOf(t, h).Journal, 40); e != api.OK || len(found) != 0 {
		t.Errorf("the journal has %d redos, %d", len(found), e)
	}
	opensNot(t, "old", d, "old", api.ErrNoKey)
	opensNot(t, "old", d, "elder", api.ErrNoKey)
	p := newPair(t, d, h, "new")
	for n := range 20 {
		if b, e := p.v.Read(n); e != api.OK || !bytes.Equal(b, make([]byte, 512)) {
			t.Errorf("sector %d: %d, or not zeros", n, e)
		}
		p.write(n, source.Bytes(512))
	}
	p.all()
}

// R3: what is handed in is not changed, and not kept.
func TestFormatKeepsNothing(t *testing.T) {
	password := []byte("one, and more in the room behind it")
	kept := bytes.Clone(password)
	h := headOf(9, 2, 2, 16)
	d, _ := disk.New(layoutOf(t, h).Blocks)
	if e := Format(d, h, password[:3], freshOf(1)); e != api.OK || !bytes.Equal(password, kept) {
		t.Errorf("Format: %d, %q", e, password)
	}
	clear(password)
	v, e := Open(d, kept[:3])
	if e != api.OK || string(kept) != "one, and more in the room behind it" {
		t.Errorf("Open: %d, %q", e, kept)
	}
	clear(kept)
	if e := v.Write(3, sample.Bytes(512)); e != api.OK {
		t.Error("Write", e)
	}
}
