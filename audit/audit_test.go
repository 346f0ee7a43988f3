package audit

import (
	"bytes"
	"math"
	"slices"
	"testing"

	"casket/api"
	"casket/disk"
	"casket/head"
	"casket/sample"
)

// dirtyDisk is one on which something lies.
func dirtyDisk(blocks int) *disk.Disk {
	source := sample.Source(blocks)
	d, _ := disk.New(blocks)
	for n := range blocks {
		d.Tamper(n, source.Bytes(512))
	}
	return d
}

// same asks that blocks are told, and nothing is done to the disks.
func same(t *testing.T, what string, want []int, ask func() []int, disks ...*disk.Disk) {
	t.Helper()
	var before []*disk.Disk
	for _, d := range disks {
		before = append(before, d.Fork())
	}
	if got := ask(); !slices.Equal(got, want) {
		t.Errorf("%s: %v, not %v", what, got, want)
	}
	for i, d := range disks {
		if d != nil && !sample.SameDisks(d, before[i]) {
			t.Errorf("%s: disk %d is another one", what, i)
		}
	}
}

// numbers are those from one on, below another one.
func numbers(from, to int) []int {
	var list []int
	for n := from; n < to; n++ {
		list = append(list, n)
	}
	return list
}

// P26.2: blocks that are otherwise, as they are sure, by each bit; whichever of the two is asked for first.
func TestDiffer(t *testing.T) {
	a := dirtyDisk(20)
	differ := func(what string, a, b *disk.Disk, want ...int) {
		t.Helper()
		same(t, what, want, func() []int { return Differ(a, b) }, a, b)
		same(t, what+", exchanged", want, func() []int { return Differ(b, a) }, a, b)
	}
	differ("itself", a, a)
	differ("a fork", a, a.Fork())
	for bit := range 4096 {
		b := a.Fork()
		x := b.Sure(bit % 20)
		x[bit/8] ^= 1 << (bit % 8)
		b.Tamper(bit%20, x)
		if got := Differ(a, b); !slices.Equal(got, []int{bit % 20}) {
			t.Fatalf("bit %d: %v", bit, got)
		}
	}
	b := a.Fork()
	for _, n := range []int{19, 3, 0, 11, 4} {
		b.Tamper(n, make([]byte, 512))
	}
	differ("some", a, b, 0, 3, 4, 11, 19)
	b.Tamper(11, a.Sure(11))
	b.Tamper(12, a.Sure(11))
	differ("one is as it was", a, b, 0, 3, 4, 12, 19)
}

// P26.2: what is not sure is not looked at, whether the disk is off or not.
func TestDifferAsTheyAreSure(t *testing.T) {
	a := dirtyDisk(9)
	b := a.Fork()
	b.Write(3, make([]byte, 512))
	b.Write(3, sample.Bytes(512))
	b.Write(5, make([]byte, 512))
	unsure := func(what string, want ...int) {
		t.Helper()
		same(t, what, want, func() []int { return Differ(a, b) }, a, b)
	}
	unsure("unsure")
	c := b.Fork()
	b.Stop(0)
	unsure("unsure, and off")
	c.Flush()
	b = c
	unsure("flushed", 3, 5)
	b.Stop(0)
	unsure("flushed, and off", 3, 5)
}

// P26.2: blocks that one of them alone has, whatever they have; a nil disk has none.
func TestDifferOfOtherLengths(t *testing.T) {
	long := dirtyDisk(9)
	for blocks := 1; blocks <= 9; blocks++ {
		short, _ := disk.New(blocks)
		for n := range blocks {
			short.Tamper(n, long.Sure(n))
		}
		same(t, "a short one", numbers(blocks, 9), func() []int { return Differ(short, long) }, short, long)
		same(t, "a short one", numbers(blocks, 9), func() []int { return Differ(long, short) }, short, long)
		short.Tamper(0, sample.Bytes(512))
		want := append([]int{0}, numbers(blocks, 9)...)
		same(t, "a short one", want, func() []int { return Differ(long, short) }, short, long)
		same(t, "none", numbers(0, blocks), func() []int { return Differ(short, nil) }, short)
		same(t, "none", numbers(0, blocks), func() []int { return Differ(nil, short) }, short)
	}
	same(t, "neither", nil, func() []int { return Differ(nil, nil) })
	zeros, _ := disk.New(4)
	more, _ := disk.New(4096)
	same(t, "zeros", numbers(4, 4096), func() []int { return Differ(zeros, more) }, zeros, more)
}

// P26.2: blocks within which bytes stand, at each place, of each length.
func TestFind(t *testing.T) {
	d := dirtyDisk(9)
	find := func(what string, needle []byte, want ...int) {
		t.Helper()
		kept := bytes.Clone(needle)
		same(t, what, want, func() []int { return Find(d, needle) }, d)
		if !bytes.Equal(needle, kept) {
			t.Errorf("%s: the needle is another one", what)
		}
	}
	for n := range 9 {
		for size := 8; size <= 512; size += 9 {
			for _, at := range []int{0, 1, (512 - size) / 2, 512 - size} {
				if at+size <= 512 {
					find("a piece", d.Sure(n)[at:at+size], n)
				}
			}
		}
		find("a whole one", d.Sure(n), n)
		find("more than a whole one", append(d.Sure(n), 0))
		find("more than a whole one", append(d.Sure(n), d.Sure((n+1)%9)...))
		find("across two", append(d.Sure(n)[500:], d.Sure((n + 1) % 9)[:12]...))
	}
	find("none", nil)
	find("none", []byte{})
	find("what is nowhere", []byte("what is nowhere"))
	d.Tamper(7, d.Sure(2))
	x := d.Sure(4)
	copy(x[77:], d.Sure(2)[30:60])
	d.Tamper(4, x)
	find("more than once", d.Sure(2)[30:60], 2, 4, 7)
	find("more than once", d.Sure(2)[30:61], 2, 7)
	// One byte, and many times the same one.
	zeros, _ := disk.New(3)
	d = zeros
	find("a zero", make([]byte, 1), 0, 1, 2)
	find("zeros", make([]byte, 512), 0, 1, 2)
	find("more zeros than a block has", make([]byte, 513))
	find("more zeros than a block has", make([]byte, 70000))
	find("a one", []byte{1})
	y := make([]byte, 512)
	y[511] = 1
	d.Tamper(1, y)
	find("a one", []byte{1}, 1)
	find("zeros", make([]byte, 512), 0, 2)
	find("zeros", make([]byte, 511), 0, 1, 2)
}

// P26.2: what is not sure is not looked at; a nil disk has nothing.
func TestFindAsItIsSure(t *testing.T) {
	d := dirtyDisk(5)
	old, x := d.Sure(3), bytes.Repeat([]byte("x"), 512)
	d.Write(3, x)
	find := func(what string, needle []byte, want ...int) {
		t.Helper()
		same(t, what, want, func() []int { return Find(d, needle) }, d)
	}
	find("not sure yet", x[:4])
	find("still sure", old[:9], 3)
	fork := d.Fork()
	d.Stop(0)
	find("off", x[:4])
	find("off", old[:9], 3)
	d = fork
	d.Flush()
	d.Stop(0)
	find("sure", x[:4], 3)
	find("not any more", old[:9])
	for _, needle := range [][]byte{nil, {0}, make([]byte, 512), make([]byte, 513)} {
		same(t, "no disk", nil, func() []int { return Find(nil, needle) })
	}
}

// P26.2: a volume's blocks, and those that are no sectors; headers that may not be.
func TestSizes(t *testing.T) {
	sizes := func(h api.Head, blocks, overhead int) {
		t.Helper()
		if b, o, e := Sizes(h); b != blocks || o != overhead || e != api.OK {
			t.Errorf("Sizes(%+v): %d, %d, %d, not %d, %d", h, b, o, e, blocks, overhead)
		}
	}
	sizes(headOf(100, 2, 4, 16), 136, 36) // the example of layer 11
	sizes(headOf(1, 1, 1, 16), 24, 23)
	sizes(headOf(8, 1, 1, 16), 31, 23)
	sizes(headOf(9, 1, 1, 16), 33, 24)
	sizes(headOf(128, 1, 1, 16), 2+1+2+16+1+16+128, 2+1+2+16+1+16)
	sizes(headOf(129, 1, 1, 16), 2+1+2+16+3+17+129, 2+1+2+16+3+17)
	sizes(headOf(1024, 8, 16, 256), 2+8+2+256+9+128+1024, 2+8+2+256+9+128)
	source := sample.Source(1)
	for range 2000 {
		h := headOf(1+source.Below(1024), 1+source.Below(8), 1+source.Below(16), 26+source.Below(231))
		l, e := head.Layout(h)
		if e != api.OK {
			t.Fatal("Layout", e)
		}
		sizes(h, l.Blocks, l.Data)
	}
	for _, h := range sample.WrongHeads(headOf(100, 2, 4, 16)) {
		if b, o, e := Sizes(h); b != 0 || o != 0 || e != api.ErrArg {
			t.Errorf("Sizes(%+v): %d, %d, %d", h, b, o, e)
		}
	}
	wrong := headOf(100, 2, 4, 16)
	wrong.Sectors = math.MaxInt32
	if b, o, e := Sizes(wrong); b != 0 || o != 0 || e != api.ErrArg {
		t.Errorf("too many sectors: %d, %d, %d", b, o, e)
	}
}

// R3: lists that are answered are new memory.
func TestMemoryOfLists(t *testing.T) {
	a, b := dirtyDisk(20), dirtyDisk(21)
	for what, ask := range map[string]func() []int{
		"Differ": func() []int { return Differ(a, b) },
		"Find":   func() []int { return Find(a, []byte{0}) },
	} {
		first := ask()
		want := slices.Clone(first)
		second := ask()
		clear(second[:cap(second)])
		if third := ask(); len(want) == 0 || !slices.Equal(first, want) || !slices.Equal(third, want) {
			t.Errorf("%s: lists share memory", what)
		}
	}
}
