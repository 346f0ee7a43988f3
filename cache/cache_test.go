package cache

import (
	"bytes"
	"maps"
	"math"
	"slices"
	"testing"

	"casket/api"
	"casket/disk"
	"casket/journal"
	"casket/record"
	"casket/sample"
)

// wild are numbers that no block has, and no area.
var wild = []int{math.MinInt, math.MinInt + 16, math.MinInt32, -1 << 32, -1<<32 + 16, -257, -16, -1, 4096, 1 << 16, 1<<31 - 1, 1 << 32, 1<<32 + 16, math.MaxInt - 256, math.MaxInt - 15, math.MaxInt}

// newDisk has so many blocks, something in each, and a journal that was made anew.
func newDisk(t *testing.T, blocks, first, count int) *disk.Disk {
	t.Helper()
	d, e := disk.New(blocks)
	if e != api.OK {
		t.Fatal(e)
	}
	source := sample.Source(blocks)
	for n := range blocks {
		d.Write(n, source.Bytes(512))
	}
	if e := journal.Init(d, first, count); e != api.OK {
		t.Fatal(e)
	}
	return d
}

// redosOf are of these blocks.
func redosOf(source *sample.Source, blocks ...int) []api.Redo {
	var l []api.Redo
	for _, n := range blocks {
		l = append(l, api.Redo{Block: n, Bytes: source.Bytes(512)})
	}
	return l
}

// from are count redos of the blocks from n on.
func from(source *sample.Source, n, count int) []api.Redo {
	var list []int
	for i := range count {
		list = append(list, n+i)
	}
	return redosOf(source, list...)
}

// worded is a cache as the chapter words it, on a disk of its own.
type worded struct {
	disk   *disk.Disk
	log    *journal.Journal
	dirty  map[int][]byte
	failed bool
}

func wordedOpen(d *disk.Disk, first, count int) (*worded, api.Errno) {
	log, found, e := journal.Open(d, first, count)
	if e != api.OK {
		return nil, e
	}
	w := &worded{disk: d, log: log, dirty: map[int][]byte{}}
	for _, x := range found {
		w.dirty[x.Block] = x.Bytes
	}
	return w, api.OK
}

// refused notes what the disk refused, and tells it.
func (w *worded) refused(e api.Errno) api.Errno {
	if e == api.ErrIO {
		w.failed = true
	}
	return e
}

func (w *worded) read(n int) ([]byte, api.Errno) {
	if w.failed {
		return nil, api.ErrIO
	}
	if b, is := w.dirty[n]; is {
		return b, api.OK
	}
	return w.disk.Read(n)
}

func (w *worded) commit(l []api.Redo) api.Errno {
	if w.failed {
		return api.ErrIO
	}
	if len(l) > w.log.Room() && len(l) <= w.log.Most() {
		if e := w.checkpoint(); e != api.OK {
			return e
		}
	}
	if e := w.log.Append(l); e != api.OK {
		return w.refused(e)
	}
	for _, x := range l {
		w.dirty[x.Block] = bytes.Clone(x.Bytes)
	}
	return api.OK
}

func (w *worded) flush() api.Errno {
	if w.failed {
		return api.ErrIO
	}
	return w.refused(w.disk.Flush())
}

func (w *worded) checkpoint() api.Errno {
	if w.failed {
		return api.ErrIO
	}
	if w.log.Used() == 0 && w.log.Begun() {
		return api.OK
	}
	if e := w.disk.Flush(); e != api.OK {
		return w.refused(e)
	}
	for n := range w.disk.Len() {
		if b, is := w.dirty[n]; is {
			if e := w.disk.Write(n, b); e != api.OK {
				return w.refused(e)
			}
		}
	}
	if e := w.disk.Flush(); e != api.OK {
		return w.refused(e)
	}
	if e := w.log.Reset(); e != api.OK {
		return w.refused(e)
	}
	w.dirty = map[int][]byte{}
	return api.OK
}

func (w *worded) clean() api.Errno {
	if e := w.checkpoint(); e != api.OK {
		return e
	}
	return w.refused(w.log.Scrub())
}

// pair is a cache beside what the chapter words; each has a disk of its own, and both are given the same.
type pair struct {
	t            *testing.T
	d            *disk.Disk
	first, count int
	c            *Cache
	w            *worded
}

// opened is a pair on a journal that was made anew.
func opened(t *testing.T, blocks, first, count int) *pair {
	t.Helper()
	d := newDisk(t, blocks, first, count)
	p := &pair{t: t, d: d, first: first, count: count, w: &worded{disk: d.Fork()}}
	p.open()
	return p
}

// begun is a pair whose journal was emptied once.
func begun(t *testing.T, blocks, first, count int) *pair {
	t.Helper()
	p := opened(t, blocks, first, count)
	p.checkpoint("at first", api.OK)
	return p
}

// open opens both anew.
func (p *pair) open() {
	p.t.Helper()
	c, e := Open(p.d, p.first, p.count)
	w, f := wordedOpen(p.w.disk, p.first, p.count)
	if e != f || (c == nil) != (e != api.OK) {
		p.t.Fatalf("Open: %d, not %d", e, f)
	}
	if e == api.OK {
		p.c, p.w = c, w
		p.same("Open")
	}
}

// same holds all that can be told of both against each other.
func (p *pair) same(what string) {
	p.t.Helper()
	if !sample.SameDisks(p.d, p.w.disk) {
		p.t.Errorf("%s: other disks", what)
	}
	dirty := slices.Sorted(maps.Keys(p.w.dirty))
	if !slices.Equal(p.c.Dirty(), dirty) || p.c.Used() != p.w.log.Used() || p.c.Most() != p.w.log.Most() {
		p.t.Errorf("%s: dirty %d, used %d, most %d, not %d, %d, %d", what, p.c.Dirty(), p.c.Used(), p.c.Most(), dirty, p.w.log.Used(), p.w.log.Most())
	}
	for n := -1; n <= p.d.Len(); n++ {
		b, e := p.c.Read(n)
		want, f := p.w.read(n)
		if e != f || !bytes.Equal(b, want) {
			p.t.Errorf("%s: block %d reads otherwise: %d, not %d", what, n, e, f)
		}
	}
}

// is asks that both answered what they should, and are the same behind it.
func (p *pair) is(what string, got, worded, want api.Errno) {
	p.t.Helper()
	if got != want || worded != want {
		p.t.Errorf("%s: %d, in words %d, not %d", what, got, worded, want)
	}
	p.same(what)
}

func (p *pair) commit(what string, l []api.Redo, want api.Errno) {
	p.t.Helper()
	p.is("Commit: "+what, p.c.Commit(l), p.w.commit(l), want)
}

func (p *pair) flush(what string, want api.Errno) {
	p.t.Helper()
	p.is("Flush: "+what, p.c.Flush(), p.w.flush(), want)
}

func (p *pair) checkpoint(what string, want api.Errno) {
	p.t.Helper()
	p.is("Checkpoint: "+what, p.c.Checkpoint(), p.w.checkpoint(), want)
}

func (p *pair) clean(what string, want api.Errno) {
	p.t.Helper()
	p.is("Clean: "+what, p.c.Clean(), p.w.clean(), want)
}

// stop stops both.
func (p *pair) stop(n int) {
	p.d.Stop(n)
	p.w.disk.Stop(n)
}

// crash keeps the same of both.
func (p *pair) crash(keep []api.Kept) {
	p.t.Helper()
	if e, f := p.d.Crash(keep), p.w.disk.Crash(keep); e != api.OK || f != api.OK {
		p.t.Fatal("a crash", e, f)
	}
}

// tamper gives both disks' block the same.
func (p *pair) tamper(n int, b []byte) {
	p.d.Tamper(n, b)
	p.w.disk.Tamper(n, b)
}

// useless asks that each call but Dirty, Used and Most is ErrIO, though the disk may answer, and that nothing is done.
func (p *pair) useless(source *sample.Source) {
	p.t.Helper()
	for range 2 {
		for _, n := range []int{-1, p.first, p.d.Len() - 1, p.d.Len()} {
			if b, e := p.c.Read(n); len(b) != 0 || e != api.ErrIO {
				p.t.Errorf("of no more use: Read(%d): %d", n, e)
			}
		}
		for _, n := range p.c.Dirty() {
			if b, e := p.c.Read(n); len(b) != 0 || e != api.ErrIO {
				p.t.Errorf("of no more use: Read(%d), dirty: %d", n, e)
			}
		}
		p.commit("of no more use", redosOf(source, p.d.Len()-1), api.ErrIO)
		p.commit("of no more use, and wrong", nil, api.ErrIO)
		p.commit("of no more use, and too long", from(source, 0, 65), api.ErrIO)
		p.flush("of no more use", api.ErrIO)
		p.checkpoint("of no more use", api.ErrIO)
		p.clean("of no more use", api.ErrIO)
		p.crash(nil)
	}
}

// P15.2, P15.4: the chapter's example.
func TestExample(t *testing.T) {
	source := sample.Source(1)
	d := newDisk(t, 40, 0, 16)
	c, _ := Open(d, 0, 16)
	before := d.Fork()
	l := redosOf(&source, 20, 30, 25)
	if e := c.Commit(l); e != api.OK {
		t.Fatal(e)
	}
	other := d.Fork()
	d.Crash(nil)
	c, _ = Open(d, 0, 16)
	for _, x := range l {
		if b, e := c.Read(x.Block); e != api.OK || !bytes.Equal(b, before.Sure(x.Block)) {
			t.Errorf("a crash: block %d is another one, %d", x.Block, e)
		}
	}
	if len(c.Dirty()) != 0 {
		t.Errorf("a crash: dirty %d", c.Dirty())
	}
	c, _ = Open(other, 0, 16)
	if e := c.Flush(); e != api.OK {
		t.Fatal(e)
	}
	other.Crash(nil)
	c, _ = Open(other, 0, 16)
	for _, x := range l {
		if b, e := c.Read(x.Block); e != api.OK || !bytes.Equal(b, x.Bytes) {
			t.Errorf("a flush and a crash: block %d is another one, %d", x.Block, e)
		}
	}
	if !slices.Equal(c.Dirty(), []int{20, 25, 30}) {
		t.Errorf("a flush and a crash: dirty %d", c.Dirty())
	}
}

// P15.1: what journal.Open refuses.
func TestOpenIsRefused(t *testing.T) {
	d := newDisk(t, 300, 10, 40)
	kept := d.Fork()
	refused := func(what string, d *disk.Disk, first, count int, want api.Errno) {
		t.Helper()
		if c, e := Open(d, first, count); c != nil || e != want {
			t.Errorf("%s: Open(%d, %d): %d, not %d", what, first, count, e, want)
		}
	}
	for _, n := range wild {
		refused("a wild first block", d, n, 40, api.ErrArg)
		refused("a wild count", d, 10, n, api.ErrArg)
		refused("both wild", d, n, n, api.ErrArg)
	}
	for _, area := range [][2]int{{10, 15}, {10, 0}, {10, 257}, {285, 16}, {300, 16}, {-1, 16}, {45, 256}} {
		refused("no area", d, area[0], area[1], api.ErrArg)
	}
	refused("no disk", nil, 10, 40, api.ErrArg)
	refused("no mark", d, 11, 40, api.ErrFormat)
	if !sample.SameDisks(d, kept) {
		t.Error("the disk was changed")
	}
	d.Stop(0)
	refused("off", d, 10, 40, api.ErrIO)
	refused("off, no area", d, 10, 257, api.ErrArg)
	refused("off, no mark", d, 11, 40, api.ErrIO)
}

// P15.1: dirty blocks are those of all redos that are found, each with the last one's bytes; opening writes nothing.
func TestOpen(t *testing.T) {
	source := sample.Source(2)
	for _, count := range []int{16, 40, 256} {
		p := opened(t, 400, 5, count)
		if len(p.c.Dirty()) != 0 || p.c.Used() != 0 || p.c.Most() != min(64, count-3) {
			t.Errorf("at first: dirty %d, used %d, most %d", p.c.Dirty(), p.c.Used(), p.c.Most())
		}
		p.checkpoint("at first", api.OK)
		last := map[int][]byte{}
		for _, blocks := range [][]int{{300, 4, 399}, {4, 301}, {0, 300}, {4}} {
			l := redosOf(&source, blocks...)
			if p.w.log.Room() < len(l) {
				break
			}
			p.commit("some", l, api.OK)
			for _, x := range l {
				last[x.Block] = x.Bytes
			}
		}
		p.d.Flush()
		p.w.disk.Flush()
		kept := p.d.Fork()
		p.open()
		if !sample.SameDisks(p.d, kept) {
			t.Error("Open changed the disk")
		}
		if got := p.c.Dirty(); !slices.Equal(got, slices.Sorted(maps.Keys(last))) || len(got) < 4 {
			t.Errorf("dirty %d", got)
		}
		for n, want := range last {
			if b, e := p.c.Read(n); e != api.OK || !bytes.Equal(b, want) || bytes.Equal(b, p.d.Sure(n)) {
				t.Errorf("block %d: %d", n, e)
			}
		}
	}
}

// P15.1: a block that is not dirty reads what the disk tells; a dirty one does not ask the disk.
func TestRead(t *testing.T) {
	source := sample.Source(3)
	p := begun(t, 60, 10, 16)
	l := redosOf(&source, 0, 59, 30)
	p.commit("three", l, api.OK)
	for n := range 60 {
		want := p.d.Sure(n)
		for _, x := range l {
			if x.Block == n {
				want = x.Bytes
			}
		}
		if n >= 10 && n < 26 {
			want, _ = p.d.Read(n) // the journal's own, maybe not sure yet
		}
		if b, e := p.c.Read(n); e != api.OK || !bytes.Equal(b, want) {
			t.Errorf("block %d: %d", n, e)
		}
	}
	for _, n := range append([]int{-1, 60, 61}, wild...) {
		if b, e := p.c.Read(n); len(b) != 0 || e != api.ErrRange {
			t.Errorf("Read(%d): %d", n, e)
		}
	}
	other := source.Bytes(512)
	p.tamper(40, other)
	p.tamper(30, other)
	if b, e := p.c.Read(40); e != api.OK || !bytes.Equal(b, other) {
		t.Errorf("rewritten, not dirty: %d", e)
	}
	if b, e := p.c.Read(30); e != api.OK || !bytes.Equal(b, l[2].Bytes) {
		t.Errorf("rewritten, dirty: %d", e)
	}
	p.stop(0)
	for _, x := range l {
		if b, e := p.c.Read(x.Block); e != api.OK || !bytes.Equal(b, x.Bytes) {
			t.Errorf("off, block %d is dirty: %d", x.Block, e)
		}
	}
	if b, e := p.c.Read(40); len(b) != 0 || e != api.ErrIO {
		t.Errorf("off, not dirty: %d", e)
	}
	if b, e := p.c.Read(60); len(b) != 0 || e != api.ErrRange {
		t.Errorf("off, no such block: %d", e)
	}
	// A Read that is refused does not end the cache's use.
	p.crash(nil)
	p.commit("behind a Read that was refused", redosOf(&source, 31), api.OK)
}

// P15.2: a Commit for which there is room writes a transaction, and nothing home; else a Checkpoint comes ahead.
func TestCommit(t *testing.T) {
	source := sample.Source(4)
	for _, count := range []int{16, 17, 30, 66, 67, 68, 140, 256} {
		for _, size := range []int{1, 2, 5, 12, 13, 14, 63, 64} {
			if size > min(64, count-3) {
				continue
			}
			p := opened(t, 400, 0, count)
			home := 0
			for range 12 {
				l := from(&source, 300+source.Below(20), size)
				used, room := p.c.Used(), p.w.log.Room()
				p.commit("some", l, api.OK)
				if size <= room && p.c.Used() != used+size+2 || size > room && p.c.Used() != size+2 {
					t.Errorf("%d blocks, %d redos: used %d, then %d", count, size, used, p.c.Used())
				}
				if size > room {
					home++
				}
			}
			if home == 0 {
				t.Errorf("%d blocks, %d redos: no Checkpoint", count, size)
			}
		}
	}
}

// P15.2: the same blocks again and again: the last bytes hold, in the cache and at home.
func TestCommitAgain(t *testing.T) {
	source := sample.Source(5)
	p := opened(t, 40, 0, 16)
	for i := range 20 {
		l := redosOf(&source, 20, 30+i%3)
		p.commit("again", l, api.OK)
		for _, x := range l {
			if b, e := p.c.Read(x.Block); e != api.OK || !bytes.Equal(b, x.Bytes) {
				t.Errorf("block %d: %d", x.Block, e)
			}
		}
	}
	last, _ := p.c.Read(20)
	p.checkpoint("to the end", api.OK)
	if !bytes.Equal(p.d.Sure(20), last) || len(p.c.Dirty()) != 0 {
		t.Error("block 20 is not home")
	}
}

// P15.2: what Append refuses.
func TestCommitIsRefused(t *testing.T) {
	source := sample.Source(6)
	for _, start := range []func(t *testing.T, blocks, first, count int) *pair{opened, begun} {
		p := start(t, 200, 10, 16)
		p.commit("nothing", nil, api.ErrArg)
		p.commit("nothing either", []api.Redo{}, api.ErrArg)
		p.commit("too long", from(&source, 100, 14), api.ErrLong)
		p.commit("64", from(&source, 100, 64), api.ErrLong)
		p.commit("65", from(&source, 100, 65), api.ErrArg)
		p.commit("too long, in the area", append(from(&source, 100, 14), redosOf(&source, 12)...), api.ErrArg)
		if len(p.d.Unsure()) != 0 || len(p.c.Dirty()) != 0 {
			t.Error("something was done")
		}
		for _, n := range append([]int{10, 25, 200, 1000}, wild...) {
			p.commit("a wrong block", redosOf(&source, n), api.ErrArg)
			p.commit("a wrong block behind another", redosOf(&source, 50, n), api.ErrArg)
		}
		p.commit("a block twice", redosOf(&source, 50, 60, 50), api.ErrArg)
		for _, size := range []int{0, 1, 511, 513} {
			p.commit("other bytes", []api.Redo{{Block: 50, Bytes: make([]byte, size)}}, api.ErrArg)
		}
		if len(p.c.Dirty()) != 0 || p.c.Used() != 0 {
			t.Error("something was committed")
		}
		p.commit("right", redosOf(&source, 50), api.OK)
	}
}

// P15.2: the Checkpoint comes ahead, whatever Append says of the redos behind it; not ahead of too many.
func TestCheckpointAhead(t *testing.T) {
	source := sample.Source(7)
	full := func() *pair {
		p := begun(t, 200, 10, 16)
		p.commit("12 of 13", from(&source, 50, 12), api.OK)
		if p.c.Used() != 14 || len(p.c.Dirty()) != 12 {
			t.Fatalf("used %d, dirty %d", p.c.Used(), p.c.Dirty())
		}
		return p
	}
	for what, l := range map[string][]api.Redo{"in the area": redosOf(&source, 10), "other bytes": {{Block: 50}}, "a block twice": redosOf(&source, 50, 50)} {
		p := full()
		p.commit(what, l, api.ErrArg)
		if p.c.Used() != 0 || len(p.c.Dirty()) != 0 || !bytes.Equal(p.d.Sure(50), must(p.c.Read(50))) {
			t.Errorf("%s: no Checkpoint", what)
		}
	}
	p := full()
	p.commit("13", from(&source, 60, 13), api.OK)
	if p.c.Used() != 15 || !slices.Equal(p.c.Dirty(), []int{60, 61, 62, 63, 64, 65, 66, 67, 68, 69, 70, 71, 72}) {
		t.Errorf("13: used %d, dirty %d", p.c.Used(), p.c.Dirty())
	}
	for _, count := range []int{0, 14, 64, 65} {
		p := full()
		want := map[int]api.Errno{0: api.ErrArg, 14: api.ErrLong, 64: api.ErrLong, 65: api.ErrArg}[count]
		p.commit("no Checkpoint", from(&source, 60, count), want)
		if p.c.Used() != 14 || len(p.c.Dirty()) != 12 {
			t.Errorf("%d: a Checkpoint", count)
		}
	}
}

// must are bytes that were read.
func must(b []byte, e api.Errno) []byte {
	if e != api.OK {
		panic(e)
	}
	return b
}

// P15.2: a Flush makes commits sure, and writes nothing home.
func TestFlush(t *testing.T) {
	source := sample.Source(8)
	p := begun(t, 60, 10, 16)
	p.commit("one", redosOf(&source, 30), api.OK)
	if len(p.d.Unsure()) != 1 {
		t.Errorf("unsure: %d", p.d.Unsure())
	}
	p.flush("one", api.OK)
	if len(p.d.Unsure()) != 0 || !slices.Equal(p.c.Dirty(), []int{30}) || p.c.Used() != 3 {
		t.Errorf("unsure %d, dirty %d, used %d", p.d.Unsure(), p.c.Dirty(), p.c.Used())
	}
	p.stop(1)
	p.flush("nothing is unsure", api.OK)
	if !p.d.Off() {
		t.Error("the disk was not flushed")
	}
	p.flush("off", api.ErrIO)
	p.useless(&source)
	p.open()
	if !slices.Equal(p.c.Dirty(), []int{30}) {
		t.Errorf("opened anew: dirty %d", p.c.Dirty())
	}
}

// P15.3: nothing is done, if nothing of the journal is used, and it is begun; else all is, though nothing is dirty.
func TestCheckpoint(t *testing.T) {
	source := sample.Source(9)
	p := opened(t, 60, 10, 16)
	p.stop(4)
	p.checkpoint("not begun", api.OK) // two flushes, a mark, a flush
	if !p.d.Off() {
		t.Error("too few steps of a journal that is not begun")
	}
	p.checkpoint("nothing is used, off", api.OK)
	p.crash(nil)
	p.stop(1)
	p.checkpoint("nothing is used", api.OK)
	if p.d.Off() {
		t.Error("something was done, though nothing is used")
	}
	p.stop(-1)
	l := redosOf(&source, 50, 3, 40)
	p.commit("three", l, api.OK)
	p.checkpoint("three", api.OK)
	if len(p.c.Dirty()) != 0 || p.c.Used() != 0 || len(p.d.Unsure()) != 0 {
		t.Errorf("dirty %d, used %d, unsure %d", p.c.Dirty(), p.c.Used(), p.d.Unsure())
	}
	for _, x := range l {
		if !bytes.Equal(p.d.Sure(x.Block), x.Bytes) {
			t.Errorf("block %d is not home", x.Block)
		}
	}
	p.open()
	if len(p.c.Dirty()) != 0 || p.c.Used() != 0 {
		t.Errorf("opened anew: dirty %d, used %d", p.c.Dirty(), p.c.Used())
	}
}

// P15.3, P15.5: Clean leaves zeros behind the mark, and no old bytes anywhere.
func TestClean(t *testing.T) {
	source := sample.Source(10)
	for _, count := range []int{16, 40, 256} {
		p := opened(t, 300, 10, count)
		isClean := func(what string) {
			t.Helper()
			for i := range count {
				if i > 0 && !bytes.Equal(p.d.Sure(10+i), make([]byte, 512)) {
					t.Errorf("%s: block %d of the area is not zeros", what, i)
				}
			}
			if len(p.d.Unsure()) != 0 || len(p.c.Dirty()) != 0 || p.c.Used() != 0 {
				t.Errorf("%s: unsure %d, dirty %d, used %d", what, p.d.Unsure(), p.c.Dirty(), p.c.Used())
			}
			if _, e := record.ReadMark(p.d.Sure(10)); e != api.OK {
				t.Errorf("%s: no mark: %d", what, e)
			}
		}
		p.clean("at first", api.OK)
		isClean("at first")
		l := redosOf(&source, 299, 0, 280)
		p.commit("three", l, api.OK)
		p.commit("one again", redosOf(&source, 0), api.OK)
		p.clean("something is used", api.OK)
		isClean("something is used")
		if !bytes.Equal(p.d.Sure(299), l[0].Bytes) || bytes.Equal(p.d.Sure(0), l[1].Bytes) {
			t.Error("blocks are not home")
		}
		p.commit("one", redosOf(&source, 281), api.OK)
		p.open()
		p.clean("opened anew", api.OK)
		isClean("opened anew")
		p.commit("one", redosOf(&source, 281), api.OK)
		p.checkpoint("one", api.OK)
		p.clean("nothing is used", api.OK)
		isClean("nothing is used")
		p.clean("again", api.OK)
		isClean("again")
	}
}

// P15.2, P15.3: what is written, in which order, and when the disk is flushed: the power goes behind each step, and the cache is of no more use then.
func TestEachStep(t *testing.T) {
	source := sample.Source(11)
	one, many, again := redosOf(&source, 60), from(&source, 40, 13), redosOf(&source, 50, 0, 99, 41)
	calls := map[string]struct {
		long  int // how many steps it has
		start func() *pair
		call  func(p *pair) (api.Errno, api.Errno)
	}{
		"Commit":                        {4, func() *pair { return begun(t, 100, 5, 16) }, func(p *pair) (api.Errno, api.Errno) { return p.c.Commit(one), p.w.commit(one) }},
		"Commit, not begun":             {8, func() *pair { return opened(t, 100, 5, 16) }, func(p *pair) (api.Errno, api.Errno) { return p.c.Commit(one), p.w.commit(one) }},
		"Commit, full":                  {4 + 4 + 16, func() *pair { return busy(t, again) }, func(p *pair) (api.Errno, api.Errno) { return p.c.Commit(many), p.w.commit(many) }},
		"Flush":                         {1, func() *pair { return busy(t, again) }, func(p *pair) (api.Errno, api.Errno) { return p.c.Flush(), p.w.flush() }},
		"Checkpoint":                    {4 + 4, func() *pair { return busy(t, again) }, func(p *pair) (api.Errno, api.Errno) { return p.c.Checkpoint(), p.w.checkpoint() }},
		"Checkpoint, not begun":         {4, func() *pair { return opened(t, 100, 5, 16) }, func(p *pair) (api.Errno, api.Errno) { return p.c.Checkpoint(), p.w.checkpoint() }},
		"Clean":                         {4 + 4 + 16, func() *pair { return busy(t, again) }, func(p *pair) (api.Errno, api.Errno) { return p.c.Clean(), p.w.clean() }},
		"Clean, where nothing was used": {16, func() *pair { return begun(t, 100, 5, 16) }, func(p *pair) (api.Errno, api.Errno) { return p.c.Clean(), p.w.clean() }},
	}
	for name, x := range calls {
		for stop := range x.long + 2 {
			p := x.start()
			p.stop(stop)
			want := api.OK
			if stop < x.long {
				want = api.ErrIO
			}
			got, worded := x.call(p)
			p.is(name, got, worded, want)
			if want == api.OK {
				continue
			}
			p.useless(&source)
			p.open()
			p.commit("opened anew", one, api.OK)
		}
	}
}

// busy is a pair that has dirty blocks, some of whose last writes are not sure.
func busy(t *testing.T, l []api.Redo) *pair {
	t.Helper()
	p := begun(t, 100, 5, 16)
	p.commit("busy", l, api.OK)
	return p
}

// P15.2: what is refused ahead of the disk ends no cache's use, though the disk is off.
func TestRefusedAheadOfTheDisk(t *testing.T) {
	source := sample.Source(12)
	p := begun(t, 100, 5, 16)
	p.stop(0)
	p.commit("nothing", nil, api.ErrArg)
	p.commit("in the area", redosOf(&source, 5), api.ErrArg)
	p.commit("too long", from(&source, 40, 14), api.ErrLong)
	p.checkpoint("nothing is used", api.OK)
	p.crash(nil)
	p.commit("one", redosOf(&source, 60), api.OK)
	p.stop(0)
	p.commit("no room, off", from(&source, 40, 13), api.ErrIO)
	p.useless(&source)
	p.open()
	p.stop(0)
	p.commit("not begun, in the area, off", redosOf(&source, 5), api.ErrIO)
	p.useless(&source)
}

// P15.2, P15.3: near the journal's last number a Checkpoint is refused at its end: blocks are home, and stay dirty; the cache goes on.
func TestLastNumbers(t *testing.T) {
	source := sample.Source(13)
	for ahead := range uint64(24) {
		mark, _ := record.Mark(math.MaxUint64 - ahead)
		p := opened(t, 100, 0, 16)
		p.tamper(0, mark)
		p.open()
		if ahead < 16 {
			p.checkpoint("no number is left", api.ErrArg)
			p.commit("no number is left", redosOf(&source, 50), api.ErrArg)
			p.commit("no number is left, and too long", from(&source, 50, 14), api.ErrLong)
			p.clean("no number is left", api.ErrArg)
			p.flush("no number is left", api.OK)
			continue
		}
		l := redosOf(&source, 50, 51)
		for range ahead - 16 + 1 {
			p.commit("a number is left", l, api.OK)
		}
		p.commit("no number is left", redosOf(&source, 52), api.ErrArg)
		p.commit("no number and no room is left", from(&source, 52, 13), api.ErrArg)
		p.checkpoint("no number is left", api.ErrArg)
		p.clean("no number is left", api.ErrArg)
		if !slices.Equal(p.c.Dirty(), []int{50, 51}) || !bytes.Equal(p.d.Sure(50), l[0].Bytes) || p.c.Used() == 0 {
			t.Errorf("dirty %d, used %d", p.c.Dirty(), p.c.Used())
		}
		p.flush("no number is left", api.OK)
	}
}

// P15.3: a nil Cache.
func TestNil(t *testing.T) {
	var c *Cache
	source := sample.Source(14)
	for _, n := range []int{0, 1, -1, math.MaxInt} {
		if b, e := c.Read(n); len(b) != 0 || e != api.ErrClosed {
			t.Errorf("Read(%d): %d", n, e)
		}
	}
	if c.Commit(redosOf(&source, 1)) != api.ErrClosed || c.Commit(nil) != api.ErrClosed || c.Flush() != api.ErrClosed || c.Checkpoint() != api.ErrClosed || c.Clean() != api.ErrClosed {
		t.Error("a nil Cache does something")
	}
	if len(c.Dirty()) != 0 || c.Used() != 0 || c.Most() != 0 {
		t.Error("a nil Cache tells something")
	}
}

// P15.1 to P15.3: any calls, answered as the words say, with crashes and a power that goes.
func TestAnyCalls(t *testing.T) {
	source := sample.Source(15)
	for range 80 {
		count := 16 + source.Below(30)>>source.Below(4)
		blocks := count + 20 + source.Below(20)
		p := opened(t, blocks, source.Below(blocks-count+1), count)
		for range 60 {
			p.anyCall(&source)
		}
	}
}

// anyCall is one of all, of the cache or of its disk.
func (p *pair) anyCall(source *sample.Source) {
	p.t.Helper()
	switch source.Below(20) {
	default:
		l := p.anyRedos(source)
		e := p.w.commit(l)
		p.is("Commit", p.c.Commit(l), e, e)
	case 0, 1:
		e := p.w.flush()
		p.is("Flush", p.c.Flush(), e, e)
	case 2:
		e := p.w.checkpoint()
		p.is("Checkpoint", p.c.Checkpoint(), e, e)
	case 3:
		e := p.w.clean()
		p.is("Clean", p.c.Clean(), e, e)
	case 4:
		p.stop(source.Below(40))
	case 5:
		var keep []api.Kept
		for _, k := range p.d.Unsure() {
			keep = append(keep, api.Kept{Block: k.Block, Writes: source.Below(k.Writes + 1)})
		}
		p.crash(keep)
		p.open()
	case 6:
		p.open()
	}
}

// anyRedos may be committed, mostly.
func (p *pair) anyRedos(source *sample.Source) []api.Redo {
	var list []int
	for range 1 + source.Below(16)>>source.Below(4) {
		n := source.Below(p.d.Len() + 1)
		if inArea := n >= p.first && n < p.first+p.count; source.Below(40) == 0 || !inArea && !slices.Contains(list, n) {
			list = append(list, n)
		}
	}
	l := redosOf(source, list...)
	for i := range l {
		if b, e := p.d.Read(p.first + source.Below(p.count)); e == api.OK && source.Below(4) == 0 {
			l[i].Bytes = b // what the journal has itself, seals and plans among it
		}
	}
	return l
}

// R3: what is handed in is left alone, and not kept.
func TestArgumentsAreLeftAlone(t *testing.T) {
	source := sample.Source(16)
	p := begun(t, 100, 0, 16)
	l := redosOf(&source, 50, 60)
	copy(l[1].Bytes, "PLAN")
	first, second := bytes.Clone(l[0].Bytes), bytes.Clone(l[1].Bytes)
	l = append(l, api.Redo{Block: 70, Bytes: []byte("behind")})
	p.commit("two", l[:2], api.OK)
	if l[0].Block != 50 || l[1].Block != 60 || !bytes.Equal(l[0].Bytes, first) || !bytes.Equal(l[1].Bytes, second) || l[2].Block != 70 || string(l[2].Bytes) != "behind" {
		t.Error("Commit changed its redos")
	}
	clear(l[0].Bytes)
	l[1].Block = 61
	clear(l[1].Bytes)
	kept := func(what string) {
		t.Helper()
		if !bytes.Equal(must(p.c.Read(50)), first) || !bytes.Equal(must(p.c.Read(60)), second) {
			t.Errorf("%s: Commit kept its redos", what)
		}
	}
	kept("committed")
	p.checkpoint("kept", api.OK)
	kept("home")
}

// R3: what Read and Dirty tell is new memory.
func TestAnswersAreNew(t *testing.T) {
	source := sample.Source(17)
	p := begun(t, 100, 0, 16)
	p.commit("three", redosOf(&source, 50, 60, 40), api.OK)
	look := func(what string) {
		t.Helper()
		for _, n := range []int{0, 1, 50, 60, 70} {
			if wrong := sample.NotNew(func() []byte { return must(p.c.Read(n)) }); wrong != "" {
				t.Errorf("%s: block %d: %s", what, n, wrong)
			}
		}
		list := p.c.Dirty()
		for _, n := range list[len(list):cap(list)] {
			if n != 0 {
				t.Errorf("%s: something is in the room behind the dirty blocks", what)
			}
		}
		clear(list[:cap(list)])
		if !slices.Equal(p.c.Dirty(), []int{40, 50, 60}) {
			t.Errorf("%s: Dirty tells what it told", what)
		}
		p.same(what)
	}
	look("committed")
	p.open()
	look("opened anew")
	p.checkpoint("new", api.OK)
	p.same("home")
}
