package cache

import (
	"bytes"
	"maps"
	"slices"
	"testing"

	"casket/api"
	"casket/disk"
	"casket/sample"
)

// The area of these tests, on a disk of so many blocks.
const (
	areaFirst = 2
	areaCount = 16
	allBlocks = 40
)

// state is what blocks have that were ever committed.
type state map[int][]byte

// history is what was done to a cache since it was opened.
type history struct {
	d      *disk.Disk
	c      *Cache
	states []state // at first, and behind each commit
	sure   int     // the last one that has a flush behind it
	cut    bool    // a call was cut off
}

// newHistory is of a journal that was made anew.
func newHistory(t *testing.T) *history {
	t.Helper()
	h := &history{d: newDisk(t, allBlocks, areaFirst, areaCount)}
	first := state{}
	for n := range allBlocks {
		if n < areaFirst || n >= areaFirst+areaCount {
			first[n] = h.d.Sure(n)
		}
	}
	h.states = []state{first}
	h.open(t)
	return h
}

func (h *history) open(t *testing.T) {
	t.Helper()
	c, e := Open(h.d, areaFirst, areaCount)
	if e != api.OK {
		t.Fatal("Open", e)
	}
	h.c = c
}

// note tells whether a call was done; if not, it must have been cut off.
func (h *history) note(t *testing.T, e api.Errno) bool {
	t.Helper()
	if e != api.OK && (e != api.ErrIO || !h.d.Off()) {
		t.Fatal("a call is refused, and not by the disk:", e)
	}
	h.cut = e != api.OK
	return !h.cut
}

func (h *history) commit(t *testing.T, l []api.Redo) {
	t.Helper()
	if !h.note(t, h.c.Commit(l)) {
		return
	}
	next := maps.Clone(h.states[len(h.states)-1])
	for _, x := range l {
		next[x.Block] = x.Bytes
	}
	h.states = append(h.states, next)
}

func (h *history) flush(t *testing.T) {
	t.Helper()
	if h.note(t, h.c.Flush()) {
		h.sure = len(h.states) - 1
	}
}

func (h *history) checkpoint(t *testing.T) {
	t.Helper()
	if h.note(t, h.c.Checkpoint()) {
		h.sure = len(h.states) - 1
	}
}

func (h *history) clean(t *testing.T) {
	t.Helper()
	if h.note(t, h.c.Clean()) {
		h.sure = len(h.states) - 1
	}
}

// reads tells whether all blocks read as a state says.
func (h *history) reads(t *testing.T, want state) bool {
	t.Helper()
	for n, b := range want {
		got, e := h.c.Read(n)
		if e != api.OK {
			t.Fatal("Read", n, e)
		}
		if !bytes.Equal(got, b) {
			return false
		}
	}
	return true
}

// crashed is the history behind a crash, on a disk of its own: what the cache reads is held against the promise.
func (h *history) crashed(t *testing.T, keep []api.Kept) *history {
	t.Helper()
	next := &history{d: h.d.Fork()}
	if e := next.d.Crash(keep); e != api.OK {
		t.Fatal("Crash", e)
	}
	next.open(t)
	for k := len(h.states) - 1; k >= h.sure; k-- {
		if next.reads(t, h.states[k]) {
			next.states = []state{h.states[k]}
			return next
		}
	}
	t.Fatalf("blocks are as none of the commits from %d to %d left them, behind a crash that kept %v", h.sure, len(h.states)-1, keep)
	return nil
}

// script is calls one behind the other; the power may go in any of them.
func script(t *testing.T, h *history, source *sample.Source) {
	t.Helper()
	calls := []func(){
		func() { h.commit(t, redosOf(source, 30)) },
		func() { h.commit(t, redosOf(source, 31, 0, 30)) },
		func() { h.flush(t) },
		func() { h.commit(t, redosOf(source, 30, 1)) },
		func() { h.commit(t, redosOf(source, 30, 31, 32, 33, 34)) }, // there is no room for it
		func() { h.commit(t, redosOf(source, 39, 33)) },
		func() { h.checkpoint(t) },
		func() { h.commit(t, redosOf(source, 33, 32)) },
		func() { h.clean(t) },
		func() { h.commit(t, redosOf(source, 0, 35)) },
		func() { h.commit(t, redosOf(source, 35)) },
	}
	for _, call := range calls {
		if !h.cut {
			call()
		}
	}
}

// P15.4: a crash behind each step of some calls, whatever lasts.
func TestEachCrash(t *testing.T) {
	source := sample.Source(21)
	stop := 0
	for ; ; stop++ {
		h := newHistory(t)
		h.d.Stop(stop)
		script(t, h, &source)
		for keep := range source.Keeps(h.d.Unsure(), 250) {
			h.crashed(t, keep)
		}
		if !h.cut {
			break
		}
	}
	if stop < 70 {
		t.Errorf("%d steps in all", stop)
	}
}

// P15.4: a second crash in the calls behind the first one, and a third one.
func TestEachCrashBehindACrash(t *testing.T) {
	source := sample.Source(22)
	for stop := 0; stop < 80; stop += 1 + source.Below(2) {
		first := newHistory(t)
		first.d.Stop(stop)
		script(t, first, &source)
		for keep := range source.Keeps(first.d.Unsure(), 6) {
			for again := range 16 {
				second := first.crashed(t, keep)
				second.d.Stop(again)
				for _, n := range []int{30, 31} {
					if !second.cut {
						second.commit(t, redosOf(&source, n))
					}
				}
				for keep := range source.Keeps(second.d.Unsure(), 5) {
					third := second.crashed(t, keep)
					third.commit(t, redosOf(&source, 32))
					third.flush(t)
					if fourth := third.crashed(t, nil); !fourth.reads(t, third.states[1]) {
						t.Error("a commit that was flushed is not there")
					}
				}
			}
		}
	}
}

// P15.4: any calls, and crashes one after the other.
func TestCrashesOneAfterTheOther(t *testing.T) {
	for run := range 40 {
		source := sample.Source(100 + run)
		h := newHistory(t)
		for range 60 {
			h.d.Stop(source.Below(60))
			for range 12 {
				if h.cut {
					break
				}
				h.anyCall(t, &source)
			}
			var keep []api.Kept
			for _, k := range h.d.Unsure() {
				keep = append(keep, api.Kept{Block: k.Block, Writes: source.Below(k.Writes + 1)})
			}
			h = h.crashed(t, keep)
		}
	}
}

// anyCall is one that the cache does not refuse by itself.
func (h *history) anyCall(t *testing.T, source *sample.Source) {
	t.Helper()
	switch source.Below(10) {
	case 0:
		h.flush(t)
	case 1:
		h.checkpoint(t)
	case 2:
		h.clean(t)
	default:
		l := from(source, 20+source.Below(8), 1+source.Below(13)>>source.Below(4))
		if b, e := h.d.Read(areaFirst + source.Below(areaCount)); e == api.OK && source.Below(3) == 0 {
			l[0].Bytes = b // what a journal has itself must not be taken for its own
		}
		h.commit(t, l)
	}
}

// P15.4: without a crash all commits are there, and a flush makes all of them sure.
func TestAllIsThere(t *testing.T) {
	source := sample.Source(23)
	h := newHistory(t)
	for i := range 30 {
		h.commit(t, from(&source, 20+source.Below(10), 1+source.Below(6)))
		last := h.states[len(h.states)-1]
		if !h.reads(t, last) {
			t.Fatalf("commit %d is not read", i)
		}
		if i%3 == 0 {
			h.open(t)
		}
		if !h.reads(t, last) {
			t.Fatalf("commit %d is not read by a cache that was opened anew", i)
		}
		h.flush(t)
		if next := h.crashed(t, nil); !next.reads(t, last) {
			t.Fatalf("commit %d was flushed, and is not there", i)
		}
	}
}

// P15.4: a commit without a flush may be lost by a crash, and its blocks are all lost with it, or none.
func TestWholeOrNotAtAll(t *testing.T) {
	source := sample.Source(24)
	lost, kept := 0, 0
	for count := 1; count <= 13; count++ {
		h := newHistory(t)
		h.commit(t, from(&source, 20, count))
		h.checkpoint(t)
		h.commit(t, from(&source, 20, count))
		for keep := range source.Keeps(h.d.Unsure(), 100) {
			if next := h.crashed(t, keep); next.reads(t, h.states[2]) {
				kept++
			} else {
				lost++
			}
		}
	}
	if lost != 13 || kept != 13 {
		t.Errorf("%d were lost, %d kept: a seal is all that is unsure", lost, kept)
	}
}

// P15.5: behind Clean nothing of what blocks had is on the disk, whatever was ahead of it: crashes, and calls that were cut off.
func TestNothingIsLeft(t *testing.T) {
	source := sample.Source(25)
	for stop := 0; stop < 80; stop += 3 {
		h := newHistory(t)
		h.d.Stop(stop)
		script(t, h, &source)
		for keep := range source.Keeps(h.d.Unsure(), 5) {
			next := h.crashed(t, keep)
			next.clean(t)
			for i := 1; i < areaCount; i++ {
				if !bytes.Equal(next.d.Sure(areaFirst+i), make([]byte, 512)) {
					t.Errorf("block %d of the area is not zeros", i)
				}
			}
			for n, b := range next.states[0] {
				if !bytes.Equal(next.d.Sure(n), b) {
					t.Errorf("block %d is not home", n)
				}
			}
			if len(next.d.Unsure()) != 0 || len(next.c.Dirty()) != 0 {
				t.Errorf("unsure %d, dirty %d", next.d.Unsure(), next.c.Dirty())
			}
		}
	}
}

// P15.4: what is committed in one order is lost in the other: a later commit is never there without an earlier one.
func TestABeginning(t *testing.T) {
	source := sample.Source(26)
	h := newHistory(t)
	for n := 20; n < 24; n++ {
		h.commit(t, redosOf(&source, n))
	}
	met := map[int]int{}
	for keep := range source.Keeps(h.d.Unsure(), 200) {
		next := h.crashed(t, keep)
		dirty := next.c.Dirty()
		if !slices.Equal(dirty, []int{20, 21, 22, 23}[:len(dirty)]) {
			t.Errorf("dirty: %d", dirty)
		}
		met[len(dirty)]++
	}
	if len(met) != 2 || met[3] == 0 || met[4] == 0 {
		t.Errorf("how many lasted, and how often: %v", met)
	}
}
