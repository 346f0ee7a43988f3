package journal

import (
	"bytes"
	"math"
	"math/bits"
	"slices"
	"testing"

	"casket/api"
	"casket/disk"
	"casket/record"
	"casket/sample"
)

// wild are numbers that are no area's, neither its first block nor how many it has.
var wild = []int{math.MinInt, math.MinInt + 16, math.MinInt32, -1 << 32, -1<<32 + 16, -257, -16, -1, 1 << 16, 1<<31 - 1, 1 << 32, 1<<32 + 16, math.MaxInt - 256, math.MaxInt - 15, math.MaxInt}

// newDisk has so many blocks, and something in each.
func newDisk(t *testing.T, blocks int) *disk.Disk {
	t.Helper()
	d, e := disk.New(blocks)
	if e != api.OK {
		t.Fatal(e)
	}
	source := sample.Source(blocks)
	for n := range blocks {
		d.Write(n, source.Bytes(512))
	}
	d.Flush()
	return d
}

// redosOf are of these blocks.
func redosOf(source *sample.Source, blocks ...int) []api.Redo {
	var l []api.Redo
	for _, n := range blocks {
		l = append(l, api.Redo{Block: n, Bytes: source.Bytes(512)})
	}
	return l
}

// from are count redos of the blocks from n on.
func from(source *sample.Source, n, count int) []api.Redo {
	var list []int
	for i := range count {
		list = append(list, n+i)
	}
	return redosOf(source, list...)
}

func sameRedos(a, b []api.Redo) bool {
	return slices.EqualFunc(a, b, func(x, y api.Redo) bool { return x.Block == y.Block && bytes.Equal(x.Bytes, y.Bytes) })
}

// flush is an op's block, where it is no write.
const flush = -1

// op is a write, or a flush.
type op struct {
	block int
	bytes []byte
}

// worded is a journal as the chapter words it, on a disk of its own.
type worded struct {
	disk         *disk.Disk
	first, count int
	number       uint64
	ended        bool // the last number is behind it
	used         int
	begun        bool
	failed       bool
}

func (w *worded) do(ops ...op) api.Errno {
	for _, x := range ops {
		e := api.OK
		if x.block == flush {
			e = w.disk.Flush()
		} else {
			e = w.disk.Write(x.block, x.bytes)
		}
		if e != api.OK {
			w.failed = true
			return e
		}
	}
	return api.OK
}

func (w *worded) next() {
	w.ended = w.number == math.MaxUint64
	w.number++
}

// outside tells whether all redos are of blocks that there are, and that are none of the area's.
func (w *worded) outside(l []api.Redo) bool {
	for _, x := range l {
		if x.Block < 0 || x.Block >= w.disk.Len() || x.Block >= w.first && x.Block <= w.first+w.count-1 {
			return false
		}
	}
	return true
}

func wordedOpen(d *disk.Disk, first, count int) (*worded, []api.Redo, api.Errno) {
	if count < 16 || count > 256 || first < 0 || first > 5000 || first+count > d.Len() {
		return nil, nil, api.ErrArg
	}
	var blocks [][]byte
	for i := range count {
		b, e := d.Read(first + i)
		if e != api.OK {
			return nil, nil, e
		}
		blocks = append(blocks, b)
	}
	number, e := record.ReadMark(blocks[0])
	if e != api.OK {
		return nil, nil, api.ErrFormat
	}
	w := &worded{disk: d, first: first, count: count, number: number}
	var all []api.Redo
	for rest := blocks[1:]; !w.ended; {
		l, n, e := record.Parse(w.number, rest)
		if e != api.OK || !w.outside(l) {
			break
		}
		all = append(all, l...)
		rest = rest[n:]
		w.used += n
		w.next()
	}
	return w, all, api.OK
}

func (w *worded) most() int {
	if w.count-3 > 64 {
		return 64
	}
	return w.count - 3
}

func (w *worded) room() int {
	n := w.count - 3 - w.used
	if !w.begun || w.failed || n < 0 {
		return 0
	}
	if n > w.most() {
		return w.most()
	}
	return n
}

func (w *worded) append(l []api.Redo) api.Errno {
	if w.failed {
		return api.ErrIO
	}
	blocks, e := record.Blocks(w.number, l)
	if w.ended || e != api.OK || !w.outside(l) {
		return api.ErrArg
	}
	if len(l) > w.most() {
		return api.ErrLong
	}
	if len(l) > w.room() {
		return api.ErrFull
	}
	var ops []op
	at := w.first + 1 + w.used
	for i, b := range blocks {
		if i == len(blocks)-1 {
			ops = append(ops, op{block: flush})
		}
		ops = append(ops, op{block: at + i, bytes: b})
	}
	if e := w.do(ops...); e != api.OK {
		return e
	}
	w.used += len(l) + 2
	w.next()
	return api.OK
}

func (w *worded) reset() api.Errno {
	if w.failed {
		return api.ErrIO
	}
	number, beyond := w.number, uint64(0)
	if !w.begun {
		number, beyond = bits.Add64(w.number, uint64(w.count), 0)
	}
	if w.ended || beyond != 0 {
		return api.ErrArg
	}
	mark, _ := record.Mark(number)
	if e := w.do(op{block: w.first, bytes: mark}, op{block: flush}); e != api.OK {
		return e
	}
	w.number, w.used, w.begun = number, 0, true
	return api.OK
}

func (w *worded) scrub() api.Errno {
	if w.failed {
		return api.ErrIO
	}
	if !w.begun || w.used > 0 {
		return api.ErrFull
	}
	var ops []op
	for i := 1; i < w.count; i++ {
		ops = append(ops, op{block: w.first + i, bytes: make([]byte, 512)})
	}
	return w.do(append(ops, op{block: flush})...)
}

// pair is a journal beside what the chapter words; each has a disk of its own, and both are given the same.
type pair struct {
	t *testing.T
	d *disk.Disk
	j *Journal
	w *worded
}

// opened is a pair on a journal that was made anew.
func opened(t *testing.T, blocks, first, count int) *pair {
	t.Helper()
	d := newDisk(t, blocks)
	if e := Init(d, first, count); e != api.OK {
		t.Fatal(e)
	}
	p := &pair{t: t, d: d, w: &worded{disk: d.Fork()}}
	p.open(first, count)
	return p
}

// begun is a pair on a journal that was made anew, and Reset.
func begun(t *testing.T, blocks, first, count int) *pair {
	t.Helper()
	p := opened(t, blocks, first, count)
	p.is("Reset", p.j.Reset(), p.w.reset(), api.OK)
	return p
}

// open opens both anew.
func (p *pair) open(first, count int) []api.Redo {
	p.t.Helper()
	j, l, e := Open(p.d, first, count)
	w, want, f := wordedOpen(p.w.disk, first, count)
	if e != f || !sameRedos(l, want) || (j == nil) != (e != api.OK) {
		p.t.Fatalf("Open: %d redos, %d, not %d redos, %d", len(l), e, len(want), f)
	}
	if e == api.OK {
		p.j, p.w = j, w
		p.same("Open")
	}
	return l
}

// crash keeps the same of both.
func (p *pair) crash(keep []api.Kept) {
	p.t.Helper()
	if e, f := p.d.Crash(keep), p.w.disk.Crash(keep); e != api.OK || f != api.OK {
		p.t.Fatal("a crash", e, f)
	}
}

// stop stops both.
func (p *pair) stop(n int) {
	p.d.Stop(n)
	p.w.disk.Stop(n)
}

// same holds all that can be told of both against each other.
func (p *pair) same(what string) {
	p.t.Helper()
	if !sample.SameDisks(p.d, p.w.disk) {
		p.t.Errorf("%s: other disks", what)
	}
	number := p.w.number
	if p.w.ended {
		number = 0
	}
	if p.j.Number() != number || p.j.Used() != p.w.used || p.j.Begun() != p.w.begun || p.j.Room() != p.w.room() || p.j.Most() != p.w.most() {
		p.t.Errorf("%s: number %d, used %d, begun %t, room %d, most %d, not %d, %d, %t, %d, %d", what, p.j.Number(), p.j.Used(), p.j.Begun(), p.j.Room(), p.j.Most(), number, p.w.used, p.w.begun, p.w.room(), p.w.most())
	}
}

// is asks that both answered what they should, and are the same behind it.
func (p *pair) is(what string, got, worded, want api.Errno) {
	p.t.Helper()
	if got != want || worded != want {
		p.t.Errorf("%s: %d, in words %d, not %d", what, got, worded, want)
	}
	p.same(what)
}

func (p *pair) append(what string, l []api.Redo, want api.Errno) {
	p.t.Helper()
	p.is(what, p.j.Append(l), p.w.append(l), want)
}

func (p *pair) reset(want api.Errno) {
	p.t.Helper()
	p.is("Reset", p.j.Reset(), p.w.reset(), want)
}

func (p *pair) scrub(want api.Errno) {
	p.t.Helper()
	p.is("Scrub", p.j.Scrub(), p.w.scrub(), want)
}

// tamper gives both disks' block the same.
func (p *pair) tamper(n int, b []byte) {
	p.d.Tamper(n, b)
	p.w.disk.Tamper(n, b)
}

// P14.2: the chapter's example.
func TestExample(t *testing.T) {
	source := sample.Source(1)
	p := begun(t, 40, 4, 16)
	if p.j.Most() != 13 || p.j.Room() != 13 || p.j.Used() != 0 {
		t.Errorf("behind a Reset: most %d, room %d, used %d", p.j.Most(), p.j.Room(), p.j.Used())
	}
	p.append("3 redos", redosOf(&source, 0, 30, 3), api.OK)
	if p.j.Most() != 13 || p.j.Room() != 8 || p.j.Used() != 5 {
		t.Errorf("behind 3 redos: most %d, room %d, used %d", p.j.Most(), p.j.Room(), p.j.Used())
	}
}

// P14.1: areas that do not lie on the disk, or are too short or too long.
func TestWrongAreas(t *testing.T) {
	d := newDisk(t, 300)
	kept := d.Fork()
	wrong := func(d *disk.Disk, first, count int) {
		t.Helper()
		if e := Init(d, first, count); e != api.ErrArg {
			t.Errorf("Init(%d, %d): %d", first, count, e)
		}
		if j, l, e := Open(d, first, count); j != nil || len(l) != 0 || e != api.ErrArg {
			t.Errorf("Open(%d, %d): %d", first, count, e)
		}
	}
	for _, n := range wild {
		wrong(d, n, 16)
		wrong(d, n, 256)
		wrong(d, 0, n)
		wrong(d, 100, n)
		for _, m := range wild {
			wrong(d, n, m)
		}
	}
	for _, area := range [][2]int{{0, 15}, {0, 0}, {0, 257}, {10, 1}, {-1, 16}, {285, 16}, {45, 256}, {299, 16}, {300, 16}, {301, 16}, {-16, 16}} {
		wrong(d, area[0], area[1])
	}
	wrong(nil, 0, 16)
	d.Stop(0)
	wrong(d, 285, 16)
	kept.Stop(0)
	if !sample.SameDisks(d, kept) {
		t.Error("the disk was changed")
	}
}

// P14.1: areas at the edges; Init writes the mark 1, and flushes, and no more.
func TestInit(t *testing.T) {
	mark, _ := record.Mark(1)
	for _, area := range [][2]int{{0, 16}, {284, 16}, {0, 256}, {44, 256}, {44, 255}, {5, 17}} {
		d := newDisk(t, 300)
		twin := d.Fork()
		if e := Init(d, area[0], area[1]); e != api.OK {
			t.Errorf("Init%d: %d", area, e)
		}
		twin.Write(area[0], mark)
		twin.Flush()
		if !sample.SameDisks(d, twin) {
			t.Errorf("Init%d: another disk", area)
		}
		j, l, e := Open(d, area[0], area[1])
		if e != api.OK || len(l) != 0 || j.Number() != 1 || j.Used() != 0 || j.Begun() || j.Room() != 0 || j.Most() != min(64, area[1]-3) {
			t.Errorf("Open%d: %d", area, e)
		}
		if !sample.SameDisks(d, twin) {
			t.Errorf("Open%d: another disk", area)
		}
	}
}

// P14.1: what the disk refuses of an Init: nothing is written, or the mark is, unsure.
func TestInitIsRefused(t *testing.T) {
	mark, _ := record.Mark(1)
	for stop := range 4 {
		d := newDisk(t, 100)
		twin := d.Fork()
		want := api.OK
		d.Stop(stop)
		twin.Stop(stop)
		if e := twin.Write(3, mark); e != api.OK {
			want = e
		} else if e := twin.Flush(); e != api.OK {
			want = e
		}
		if e := Init(d, 3, 20); e != want || (e == api.ErrIO) != (stop < 2) {
			t.Errorf("off behind %d: %d", stop, e)
		}
		if !sample.SameDisks(d, twin) {
			t.Errorf("off behind %d: another disk", stop)
		}
	}
}

// P14.1: what Open refuses: a disk that is off, then a first block that is no mark.
func TestOpenIsRefused(t *testing.T) {
	d := newDisk(t, 100)
	Init(d, 3, 20)
	off := d.Fork()
	off.Stop(0)
	for _, first := range []int{3, 4} {
		if j, l, e := Open(off, first, 20); j != nil || len(l) != 0 || e != api.ErrIO {
			t.Errorf("off, from %d on: %d", first, e)
		}
	}
	for _, first := range []int{0, 2, 4, 80} {
		if j, l, e := Open(d, first, 20); j != nil || len(l) != 0 || e != api.ErrFormat {
			t.Errorf("no mark at %d: %d", first, e)
		}
	}
	source := sample.Source(2)
	mark, _ := record.Mark(1)
	blocks, _ := record.Blocks(1, redosOf(&source, 0))
	for _, b := range [][]byte{make([]byte, 512), blocks[0], blocks[1], blocks[2], append(mark[:511:511], 1)} {
		d.Tamper(3, b)
		if j, l, e := Open(d, 3, 20); j != nil || len(l) != 0 || e != api.ErrFormat {
			t.Errorf("%q: %d", b[:4], e)
		}
	}
	d.Tamper(3, mark)
	if _, _, e := Open(d, 3, 20); e != api.OK {
		t.Errorf("a mark: %d", e)
	}
	if _, _, e := Open(d, 3, 97); e != api.OK {
		t.Errorf("a longer area with the same mark: %d", e)
	}
}

// P14.1, P14.2: redos of all that was appended, in order, in areas of all lengths.
func TestAppendAndOpen(t *testing.T) {
	source := sample.Source(3)
	for _, count := range []int{16, 17, 18, 60, 66, 67, 68, 70, 133, 255, 256} {
		for _, size := range []int{1, 2, 13, 14, 63, 64} {
			p := begun(t, 400, 7, count)
			var all []api.Redo
			for size <= p.j.Room() {
				l := from(&source, 300+source.Below(20), size)
				p.append("there is room", l, api.OK)
				all = append(all, l...)
			}
			want := api.ErrFull
			if size > min(count-3, 64) {
				want = api.ErrLong
			}
			p.append("there is no room", from(&source, 300, size), want)
			if l := p.open(7, count); !sameRedos(l, all) {
				t.Errorf("%d blocks, %d redos each: %d of %d redos", count, size, len(l), len(all))
			}
			p.append("not begun", from(&source, 300, 1), api.ErrFull)
			p.append("not begun, and too long", from(&source, 300, 64), map[bool]api.Errno{true: api.ErrLong, false: api.ErrFull}[count < 67])
		}
	}
}

// P14.2: each number of redos that there may be room for, and one more.
func TestRoom(t *testing.T) {
	source := sample.Source(4)
	for _, count := range []int{16, 20, 66, 67, 68, 70, 130, 256} {
		for first := 1; first <= min(64, count-3); first++ {
			p := begun(t, 400, 0, count)
			p.append("the first", from(&source, 300, first), api.OK)
			room := p.j.Room()
			if want := min(64, max(0, count-3-first-2)); room != want {
				t.Errorf("%d blocks, %d redos: room %d, not %d", count, first, room, want)
			}
			want := api.ErrFull
			if room == 64 {
				want = api.ErrArg // 65 are no transaction's
			} else if room == p.j.Most() {
				want = api.ErrLong
			}
			p.append("one more than there is room for", from(&source, 300, room+1), want)
			if room > 0 {
				p.append("what there is room for", from(&source, 300, room), api.OK)
			}
		}
	}
}

// P14.2: what is no transaction's, or names a block of the area, or one that there is not.
func TestWrongRedos(t *testing.T) {
	source := sample.Source(5)
	for _, area := range [][2]int{{0, 16}, {10, 20}, {84, 16}} {
		p := begun(t, 100, area[0], area[1])
		first, count := area[0], area[1]
		other := (first + count + 30) % 100
		for n := -3; n < 105; n++ {
			want := api.OK
			if n < 0 || n >= 100 || n >= first && n < first+count {
				want = api.ErrArg
			}
			if n == other {
				continue
			}
			p.append("a block", redosOf(&source, n), want)
			p.append("the second block", redosOf(&source, other, n), want)
			p.reset(api.OK)
		}
		for _, n := range []int{math.MinInt, math.MinInt + first, -1 << 32, 4095, 4096, 1 << 32, 1<<32 + other, math.MaxInt} {
			p.append("a wild block", redosOf(&source, n), api.ErrArg)
			p.append("a wild block behind another", redosOf(&source, other, n), api.ErrArg)
		}
		p.append("nothing", nil, api.ErrArg)
		p.append("a block twice", redosOf(&source, other, other), api.ErrArg)
		for _, size := range []int{0, 1, 511, 513} {
			p.append("other bytes", []api.Redo{{Block: other, Bytes: make([]byte, size)}}, api.ErrArg)
		}
	}
}

// P14.2: which error is told first.
func TestWhichErrorFirst(t *testing.T) {
	source := sample.Source(6)
	p := opened(t, 200, 0, 16)
	tooLong := from(&source, 100, 14)
	p.append("not begun, in the area", redosOf(&source, 3), api.ErrArg)
	p.append("not begun, too long", tooLong, api.ErrLong)
	p.append("not begun", redosOf(&source, 100), api.ErrFull)
	p.reset(api.OK)
	p.append("13", from(&source, 100, 13), api.OK)
	p.append("full, too long, in the area", append(slices.Clone(tooLong), redosOf(&source, 3)...), api.ErrArg)
	p.append("full, too long, a block twice", append(slices.Clone(tooLong), tooLong[0]), api.ErrArg)
	p.append("full, 65", from(&source, 100, 65), api.ErrArg)
	p.append("full, 64", from(&source, 100, 64), api.ErrLong)
	p.append("full, too long", tooLong, api.ErrLong)
	p.append("full", redosOf(&source, 100), api.ErrFull)
	p.stop(0)
	p.append("full, too long, in the area, off", append(slices.Clone(tooLong), redosOf(&source, 3)...), api.ErrArg)
	p.append("full, too long, off", tooLong, api.ErrLong)
	p.append("full, off", redosOf(&source, 100), api.ErrFull)
	p.scrub(api.ErrFull)
	p.reset(api.ErrIO)
	p.append("failed, in the area", redosOf(&source, 3), api.ErrIO)
	p.append("failed, too long", tooLong, api.ErrIO)
	p.append("failed", nil, api.ErrIO)
	p.scrub(api.ErrIO)
	p.reset(api.ErrIO)
}

// P14.2, P14.3: what is written, in which order, and when the disk is flushed: the power goes behind each step.
func TestEachStep(t *testing.T) {
	source := sample.Source(7)
	one, three, many := redosOf(&source, 60), redosOf(&source, 50, 0, 99), from(&source, 40, 13)
	calls := map[string]func(p *pair) (api.Errno, api.Errno){
		"one":   func(p *pair) (api.Errno, api.Errno) { return p.j.Append(one), p.w.append(one) },
		"three": func(p *pair) (api.Errno, api.Errno) { return p.j.Append(three), p.w.append(three) },
		"many":  func(p *pair) (api.Errno, api.Errno) { return p.j.Append(many), p.w.append(many) },
		"Reset": func(p *pair) (api.Errno, api.Errno) { return p.j.Reset(), p.w.reset() },
		"Scrub": func(p *pair) (api.Errno, api.Errno) { return p.j.Scrub(), p.w.scrub() },
	}
	long := map[string]int{"one": 4, "three": 6, "many": 16, "Reset": 2, "Scrub": 16}
	for name, call := range calls {
		for stop := range long[name] + 2 {
			p := begun(t, 100, 5, 16)
			p.stop(stop)
			want := api.OK
			if stop < long[name] {
				want = api.ErrIO
			}
			got, worded := call(p)
			p.is(name, got, worded, want)
			if want == api.OK {
				continue
			}
			if p.j.Room() != 0 || p.j.Used() != 0 || p.j.Number() != 17 || !p.j.Begun() || p.j.Most() != 13 {
				t.Errorf("%s was refused behind %d: room %d, used %d, number %d", name, stop, p.j.Room(), p.j.Used(), p.j.Number())
			}
			p.append("of no more use", one, api.ErrIO)
			p.reset(api.ErrIO)
			p.scrub(api.ErrIO)
			p.crash(nil)
			p.append("of no more use, though the disk answers", one, api.ErrIO)
			p.append("whatever is handed in", nil, api.ErrIO)
			p.reset(api.ErrIO)
			p.scrub(api.ErrIO)
			p.open(5, 16)
			p.reset(api.OK)
			p.append("opened anew", three, api.OK)
		}
	}
}

// P14.3: which number a Reset begins with.
func TestResetNumbers(t *testing.T) {
	source := sample.Source(8)
	for _, count := range []int{16, 31, 256} {
		p := opened(t, 300, 0, count)
		if p.j.Number() != 1 {
			t.Errorf("at first: %d", p.j.Number())
		}
		number := uint64(1 + count)
		for range 3 {
			p.reset(api.OK)
			if p.j.Number() != number || !p.j.Begun() || p.j.Used() != 0 {
				t.Errorf("Reset: number %d, not %d", p.j.Number(), number)
			}
			p.reset(api.OK)
			if p.j.Number() != number {
				t.Errorf("a second Reset: number %d, not %d", p.j.Number(), number)
			}
			p.append("one", redosOf(&source, 299), api.OK)
			p.append("one more", redosOf(&source, 298), api.OK)
			p.reset(api.OK)
			if p.j.Number() != number+2 {
				t.Errorf("behind two: number %d, not %d", p.j.Number(), number+2)
			}
			p.append("one", redosOf(&source, 299), api.OK)
			p.open(0, count)
			number += 3 + uint64(count)
		}
	}
}

// P14.2, P14.3: near the last number.
func TestLastNumbers(t *testing.T) {
	source := sample.Source(9)
	for ahead := range uint64(40) {
		mark, _ := record.Mark(math.MaxUint64 - ahead)
		p := opened(t, 100, 0, 16)
		p.tamper(0, mark)
		p.open(0, 16)
		if ahead < 16 {
			p.reset(api.ErrArg)
			p.stop(0)
			p.reset(api.ErrArg)
			p.append("not begun", redosOf(&source, 50), api.ErrFull)
			continue
		}
		p.reset(api.OK)
		for range ahead - 16 + 1 {
			if p.j.Room() < 2 {
				p.reset(api.OK)
			}
			p.append("a number is left", redosOf(&source, 50, 51), api.OK)
		}
		if p.j.Number() != 0 {
			t.Errorf("there is no number any more: %d", p.j.Number())
		}
		p.append("no number is left", redosOf(&source, 50), api.ErrArg)
		p.reset(api.ErrArg)
		p.scrub(api.ErrFull)
		p.open(0, 16)
		if p.j.Number() != 0 || p.j.Used() == 0 {
			t.Errorf("opened behind the last number: %d", p.j.Number())
		}
		p.append("no number is left", redosOf(&source, 50), api.ErrArg)
		p.reset(api.ErrArg)
		p.scrub(api.ErrFull)
	}
}

// P14.3: what Scrub is for, and what it leaves.
func TestScrub(t *testing.T) {
	source := sample.Source(10)
	for _, count := range []int{16, 40, 256} {
		p := opened(t, 300, 10, count)
		p.scrub(api.ErrFull)
		p.reset(api.OK)
		p.append("something", redosOf(&source, 299, 0), api.OK)
		p.scrub(api.ErrFull)
		p.reset(api.OK)
		number := p.j.Number()
		p.scrub(api.OK)
		for i := range count {
			if i > 0 && !bytes.Equal(p.d.Sure(10+i), make([]byte, 512)) {
				t.Errorf("block %d is not zeros", i)
			}
		}
		if len(p.d.Unsure()) != 0 || p.j.Number() != number || p.j.Used() != 0 || !p.j.Begun() || p.j.Room() != min(64, count-3) {
			t.Errorf("behind a Scrub: number %d, used %d, room %d", p.j.Number(), p.j.Used(), p.j.Room())
		}
		p.scrub(api.OK)
		p.append("something else", redosOf(&source, 299), api.OK)
		if l := p.open(10, count); len(l) != 1 {
			t.Errorf("behind a Scrub: %d redos", len(l))
		}
		p.scrub(api.ErrFull)
	}
}

// P14.3: a nil Journal.
func TestNil(t *testing.T) {
	var j *Journal
	source := sample.Source(11)
	if j.Append(redosOf(&source, 1)) != api.ErrClosed || j.Append(nil) != api.ErrClosed || j.Reset() != api.ErrClosed || j.Scrub() != api.ErrClosed {
		t.Error("a nil Journal does something")
	}
	if j.Room() != 0 || j.Most() != 0 || j.Number() != 0 || j.Used() != 0 || j.Begun() {
		t.Error("a nil Journal tells something")
	}
}

// P14.1: transactions that others wrote: whole ones, with numbers one behind the other, in the area, of blocks outside it.
func TestFoundOrNot(t *testing.T) {
	source := sample.Source(12)
	lay := func(p *pair, at int, number uint64, l []api.Redo) int {
		blocks, e := record.Blocks(number, l)
		if e != api.OK {
			t.Fatal(e)
		}
		for _, b := range blocks {
			if at < p.d.Len() {
				p.tamper(at, b)
			}
			at++
		}
		return at
	}
	right := redosOf(&source, 0, 3, 99)
	for what, second := range map[string][]api.Redo{
		"the area's first block": redosOf(&source, 50, 4), "the area's last block": redosOf(&source, 50, 27), "in the area": redosOf(&source, 4, 10, 27),
		"no block": redosOf(&source, 100), "no block either": redosOf(&source, 98, 99, 4095),
	} {
		p := opened(t, 100, 4, 24)
		at := lay(p, 5, 1, right)
		at = lay(p, at, 2, second)
		lay(p, at, 3, right)
		if l := p.open(4, 24); !sameRedos(l, right) || p.j.Used() != 5 || p.j.Number() != 2 {
			t.Errorf("%s: %d redos, used %d, number %d", what, len(l), p.j.Used(), p.j.Number())
		}
	}
	mark, _ := record.Mark(7)
	for what, numbers := range map[string][3]uint64{"twice": {7, 7, 8}, "left out": {7, 9, 10}, "an elder one": {7, 6, 8}, "right": {7, 8, 9}, "none": {8, 9, 10}, "elder ones": {6, 7, 8}, "backward": {7, 6, 5}} {
		p := opened(t, 100, 4, 24)
		p.tamper(4, mark)
		at := 5
		for _, number := range numbers {
			at = lay(p, at, number, right)
		}
		want := map[string]int{"twice": 1, "left out": 1, "an elder one": 1, "right": 3, "backward": 1}[what]
		if l := p.open(4, 24); len(l) != 3*want || p.j.Used() != 5*want || p.j.Number() != uint64(7+want) {
			t.Errorf("%s: %d redos, used %d", what, len(l), p.j.Used())
		}
	}
	edge := opened(t, 100, 4, 24)
	at := lay(edge, 5, 1, from(&source, 60, 20))
	if at != 27 || len(edge.open(4, 24)) != 20 {
		t.Error("all of the area but its last block")
	}
	if at = lay(edge, 5, 1, from(&source, 60, 21)); at != 28 || len(edge.open(4, 24)) != 21 || edge.j.Used() != 23 {
		t.Error("all of the area")
	}
	if at = lay(edge, 5, 1, from(&source, 60, 22)); at != 29 || len(edge.open(4, 24)) != 0 || edge.j.Used() != 0 {
		t.Error("one block more than the area")
	}
	end := opened(t, 28, 4, 24)
	if lay(end, 5, 1, from(&source, 0, 4)); len(end.open(4, 24)) != 4 {
		t.Error("an area at the disk's end")
	}
}

// P14.1 to P14.3: any calls, answered as the words say, with crashes and a power that goes.
func TestAnyCalls(t *testing.T) {
	source := sample.Source(13)
	for range 60 {
		count := 16 + source.Below(40)>>source.Below(4)
		blocks := count + 20 + source.Below(60)
		first := source.Below(blocks - count + 1)
		p := opened(t, blocks, first, count)
		for range 60 {
			switch source.Below(16) {
			default:
				p.anyAppend(&source, blocks)
			case 0, 1, 2:
				e := p.w.reset()
				p.is("Reset", p.j.Reset(), e, e)
			case 3:
				e := p.w.scrub()
				p.is("Scrub", p.j.Scrub(), e, e)
			case 4:
				p.d.Flush()
				p.w.disk.Flush()
			case 5:
				p.stop(source.Below(12))
			case 6:
				var keep []api.Kept
				for _, k := range p.d.Unsure() {
					keep = append(keep, api.Kept{Block: k.Block, Writes: source.Below(k.Writes + 1)})
				}
				p.crash(keep)
				p.open(first, count)
			case 7:
				p.open(first, count)
			}
		}
	}
}

// anyAppend appends what may be appended, mostly.
func (p *pair) anyAppend(source *sample.Source, blocks int) {
	p.t.Helper()
	var list []int
	for range 1 + source.Below(8)>>source.Below(3) {
		n := source.Below(blocks + 1)
		if inArea := n >= p.w.first && n < p.w.first+p.w.count; !inArea || source.Below(30) == 0 {
			list = append(list, n)
		}
	}
	l := redosOf(source, list...)
	for i := range l {
		if source.Below(4) == 0 {
			b, _ := p.d.Read(p.w.first + source.Below(p.w.count))
			if b != nil {
				l[i].Bytes = b // what the journal has itself, seals and plans among it
			}
		}
	}
	e := p.w.append(l)
	p.is("Append", p.j.Append(l), e, e)
}

// R3: what is handed in is left alone, and not kept.
func TestArgumentsAreLeftAlone(t *testing.T) {
	source := sample.Source(14)
	p := begun(t, 100, 0, 16)
	l := redosOf(&source, 50, 60)
	copy(l[1].Bytes, "PLAN")
	first, second := bytes.Clone(l[0].Bytes), bytes.Clone(l[1].Bytes)
	l = append(l, api.Redo{Block: 70, Bytes: []byte("behind")})
	p.append("two", l[:2], api.OK)
	if l[0].Block != 50 || l[1].Block != 60 || !bytes.Equal(l[0].Bytes, first) || !bytes.Equal(l[1].Bytes, second) || l[2].Block != 70 || string(l[2].Bytes) != "behind" {
		t.Error("Append changed its redos")
	}
	clear(l[0].Bytes)
	clear(l[1].Bytes)
	if found := p.open(0, 16); !bytes.Equal(found[0].Bytes, first) || !bytes.Equal(found[1].Bytes, second) {
		t.Error("Append kept its redos")
	}
}

// R3: the redos that Open tells are new memory, and share nothing.
func TestAnswersAreNew(t *testing.T) {
	source := sample.Source(15)
	p := begun(t, 100, 0, 40)
	var all []api.Redo
	for range 4 {
		l := redosOf(&source, 50, 60, 70)
		copy(l[0].Bytes, "MARK")
		p.append("three", l, api.OK)
		all = append(all, l...)
	}
	for i := range all {
		if wrong := sample.NotNew(func() []byte { _, l, _ := Open(p.d, 0, 40); return l[i].Bytes }); wrong != "" {
			t.Errorf("redo %d: %s", i, wrong)
		}
	}
	_, l, _ := Open(p.d, 0, 40)
	for i, x := range l {
		clear(x.Bytes[:cap(x.Bytes)])
		if !sameRedos(l[i+1:], all[i+1:]) {
			t.Errorf("redo %d shares memory with others", i)
		}
	}
	for _, x := range l[len(l):cap(l)] {
		if x.Block != 0 || x.Bytes != nil {
			t.Error("something is in the room behind the redos")
		}
	}
	if !sameRedos(p.open(0, 40), all) {
		t.Error("the disk was changed")
	}
}
