package journal

import (
	"slices"
	"testing"

	"casket/api"
	"casket/disk"
	"casket/sample"
)

// The area of these tests, on a disk of so many blocks.
const (
	areaFirst = 2
	areaCount = 16
	allBlocks = 40
)

// history is what was done to a journal since the last Reset that was OK.
type history struct {
	d       *disk.Disk
	j       *Journal
	done    [][]api.Redo // the transactions that were appended
	sure    int          // how many of them have a flush behind them
	cut     bool         // a call was cut off
	cutOver bool         // it was a Reset
}

// begunHistory is of a journal that was made anew, and Reset.
func begunHistory(t *testing.T) *history {
	t.Helper()
	h := &history{d: newDisk(t, allBlocks)}
	if e := Init(h.d, areaFirst, areaCount); e != api.OK {
		t.Fatal(e)
	}
	h.open(t)
	h.reset(t)
	return h
}

func (h *history) open(t *testing.T) []api.Redo {
	t.Helper()
	j, l, e := Open(h.d, areaFirst, areaCount)
	if e != api.OK {
		t.Fatal("Open", e)
	}
	h.j = j
	return l
}

// note tells whether a call was done; if not, it must have been cut off.
func (h *history) note(t *testing.T, e api.Errno) bool {
	t.Helper()
	if e != api.OK && (e != api.ErrIO || !h.d.Off()) {
		t.Fatal("a call is refused, and not by the disk:", e)
	}
	h.cut = e != api.OK
	return !h.cut
}

func (h *history) append(t *testing.T, l []api.Redo) {
	t.Helper()
	if h.note(t, h.j.Append(l)) {
		h.sure = len(h.done) // its flush came ahead of its seal
		h.done = append(h.done, l)
	}
}

func (h *history) reset(t *testing.T) {
	t.Helper()
	if h.note(t, h.j.Reset()) {
		h.done, h.sure = nil, 0
	} else {
		h.cutOver = true
	}
}

func (h *history) flush(t *testing.T) {
	t.Helper()
	if h.note(t, h.d.Flush()) {
		h.sure = len(h.done)
	}
}

func (h *history) scrub(t *testing.T) {
	t.Helper()
	h.note(t, h.j.Scrub())
}

// crashed is the history behind a crash, on a disk of its own: what Open finds is held against the promise.
func (h *history) crashed(t *testing.T, keep []api.Kept) *history {
	t.Helper()
	next := &history{d: h.d.Fork()}
	if e := next.d.Crash(keep); e != api.OK {
		t.Fatal("Crash", e)
	}
	l := next.open(t)
	for count := len(h.done); count >= h.sure; count-- {
		if sameRedos(l, slices.Concat(h.done[:count]...)) {
			next.done, next.sure = h.done[:count:count], count
			return next
		}
	}
	if !h.cutOver || len(l) != 0 {
		t.Fatalf("%d redos were found behind %d transactions, %d of them sure, and a crash that kept %v", len(l), len(h.done), h.sure, keep)
	}
	return next
}

// script is calls one behind the other; the power may go in any of them.
func script(t *testing.T, h *history, source *sample.Source) {
	t.Helper()
	calls := []func(){
		func() { h.append(t, redosOf(source, 30)) },
		func() { h.append(t, redosOf(source, 31, 0)) },
		func() { h.flush(t) },
		func() { h.append(t, redosOf(source, 30)) },
		func() { h.reset(t) },
		func() { h.append(t, redosOf(source, 32)) },
		func() { h.reset(t) },
		func() { h.scrub(t) },
		func() { h.append(t, redosOf(source, 33, 34, 35)) },
		func() { h.append(t, redosOf(source, 33)) },
	}
	for _, call := range calls {
		if !h.cut {
			call()
		}
	}
}

// P14.4: a crash behind each step of some calls, whatever lasts.
func TestEachCrash(t *testing.T) {
	source := sample.Source(21)
	for stop := 0; ; stop++ {
		h := begunHistory(t)
		h.d.Stop(stop)
		script(t, h, &source)
		for keep := range source.Keeps(h.d.Unsure(), 600) {
			h.crashed(t, keep)
		}
		if !h.cut {
			break
		}
	}
}

// P14.4: a second crash in the Reset and the Append behind the first one, and a third one.
func TestEachCrashBehindACrash(t *testing.T) {
	source := sample.Source(22)
	for stop := range 30 {
		first := begunHistory(t)
		first.d.Stop(stop)
		script(t, first, &source)
		for keep := range source.Keeps(first.d.Unsure(), 12) {
			for again := range 9 {
				second := first.crashed(t, keep)
				second.d.Stop(again)
				second.reset(t)
				if !second.cut {
					second.append(t, redosOf(&source, 30))
				}
				if !second.cut {
					second.append(t, redosOf(&source, 31))
				}
				for keep := range source.Keeps(second.d.Unsure(), 8) {
					third := second.crashed(t, keep)
					third.reset(t)
					third.append(t, redosOf(&source, 32))
					third.flush(t)
					third.crashed(t, nil)
				}
			}
		}
	}
}

// P14.4: any calls, and crashes one after the other.
func TestCrashesOneAfterTheOther(t *testing.T) {
	for run := range 40 {
		source := sample.Source(100 + run)
		h := begunHistory(t)
		for range 60 {
			h.d.Stop(source.Below(30))
			for range 12 {
				if h.cut {
					break
				}
				h.anyCall(t, &source)
			}
			var keep []api.Kept
			for _, k := range h.d.Unsure() {
				keep = append(keep, api.Kept{Block: k.Block, Writes: source.Below(k.Writes + 1)})
			}
			h = h.crashed(t, keep)
		}
	}
}

// anyCall is one that the journal does not refuse by itself.
func (h *history) anyCall(t *testing.T, source *sample.Source) {
	t.Helper()
	count := 1 + source.Below(4)
	switch {
	case count > h.j.Room() || source.Below(8) == 0:
		h.reset(t)
	case source.Below(6) == 0:
		h.flush(t)
	case source.Below(6) == 0 && h.j.Used() == 0:
		h.scrub(t)
	default:
		l := from(source, 20+source.Below(10), count)
		if b, e := h.d.Read(areaFirst + source.Below(areaCount)); e == api.OK && source.Below(3) == 0 {
			l[0].Bytes = b // what a journal has itself must not be taken for its own
		}
		h.append(t, l)
	}
}

// P14.4: without a crash all is found, and a flush makes all sure.
func TestAllIsFound(t *testing.T) {
	source := sample.Source(23)
	h := begunHistory(t)
	for range 4 {
		h.append(t, redosOf(&source, 30))
		if l := h.open(t); !sameRedos(l, slices.Concat(h.done...)) {
			t.Errorf("%d of %d redos were found", len(l), len(h.done))
		}
		h.flush(t)
		if next := h.crashed(t, nil); len(next.done) != len(h.done) {
			t.Errorf("%d of %d transactions lasted", len(next.done), len(h.done))
		}
		// Opening it made it one that is not begun: the history goes on with a new Reset.
		h.reset(t)
		if l := h.open(t); len(l) != 0 {
			t.Errorf("%d redos were found behind a Reset", len(l))
		}
		h.reset(t)
		for range 3 {
			h.append(t, redosOf(&source, 31))
		}
	}
}

// P14.5: elder transactions that are whole behind the last one, where the next one would be, are not found.
func TestElderOnesBehind(t *testing.T) {
	source := sample.Source(24)
	for elder := 1; elder <= 5; elder++ {
		for newer := range elder {
			h := begunHistory(t)
			for range elder {
				h.append(t, redosOf(&source, 30))
			}
			h.reset(t)
			for range newer {
				h.append(t, redosOf(&source, 31))
			}
			h.flush(t)
			if next := h.crashed(t, nil); len(next.done) != newer || next.j.Used() != 3*newer {
				t.Errorf("%d ones ahead of %d elder ones: %d were found", newer, elder-newer, len(next.done))
			}
		}
	}
}

// P14.5: a journal that was opened and Reset does not take what a crash left for what comes next, whole as it may be.
func TestLeftByACrash(t *testing.T) {
	source := sample.Source(25)
	h := begunHistory(t)
	h.append(t, redosOf(&source, 30))
	h.append(t, redosOf(&source, 31))
	h.append(t, redosOf(&source, 32))
	h.flush(t)
	// The first one is cut short, and those behind it are whole.
	h.d.Tamper(areaFirst+3, make([]byte, 512))
	if l := h.open(t); len(l) != 0 {
		t.Fatalf("%d redos were found", len(l))
	}
	h.reset(t)
	for count := range 3 {
		if l := h.open(t); len(l) != count {
			t.Errorf("%d redos were found behind %d transactions", len(l), count)
		}
		h.reset(t)
		for range count + 1 {
			h.append(t, redosOf(&source, 33))
		}
	}
}

// P14.5: what lies behind the transactions that are found decides nothing, if its numbers are lesser.
func TestWhatLiesBehind(t *testing.T) {
	source := sample.Source(26)
	h := begunHistory(t)
	var old [][]byte
	for range 3 {
		for range 4 {
			h.append(t, redosOf(&source, 30))
		}
		h.flush(t)
		for n := range areaCount {
			old = append(old, h.d.Sure(areaFirst+n))
		}
		h.reset(t)
	}
	h.append(t, redosOf(&source, 31))
	h.append(t, redosOf(&source, 32))
	h.flush(t)
	for range 300 {
		other := &history{d: h.d.Fork(), done: h.done, sure: h.sure}
		from := source.Below(len(old))
		for i := range areaCount - 1 - 6 {
			if b := old[(from+i)%len(old)]; source.Below(4) > 0 {
				other.d.Tamper(areaFirst+1+6+i, b)
			}
		}
		if next := other.crashed(t, nil); len(next.done) != 2 {
			t.Errorf("%d transactions were found", len(next.done))
		}
	}
}
