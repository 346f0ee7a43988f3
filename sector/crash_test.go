package sector

import (
	"bytes"
	"slices"
	"testing"

	"casket/api"
	"casket/cache"
	"casket/disk"
	"casket/journal"
	"casket/sample"
)

// history is what was done to a store since it was opened. The blocks of keys hold which epochs the ring has, as a volume's do.
type history struct {
	t      *testing.T
	d      *disk.Disk
	c      *cache.Cache
	s      *Store
	states []*words // at first, and behind each change
	sure   int      // the last one that has a flush behind it
	cut    bool     // a call was cut off
}

// newHistory is of a volume that was never written.
func newHistory(t *testing.T, h api.Head) *history {
	t.Helper()
	x := newWords(t, h)
	d, _ := disk.New(x.l.Blocks)
	for n, b := range x.blocks {
		d.Tamper(n, b)
	}
	if e := journal.Init(d, x.l.Journal, h.Journal); e != api.OK {
		t.Fatal("Init", e)
	}
	return &history{t: t, d: d, states: []*words{x}}
}

// last is what the store should be.
func (h *history) last() *words {
	return h.states[len(h.states)-1]
}

// open is a store of what the disk has.
func (h *history) open(want *words) api.Errno {
	h.t.Helper()
	c, e := cache.Open(h.d, want.l.Journal, want.h.Journal)
	if e != api.OK {
		h.t.Fatal("cache.Open", e)
	}
	h.c = c
	h.s, e = New(c, want.h, rootKey, want.ring)
	return e
}

// note tells whether a call was done; if not, it must have been cut off.
func (h *history) note(e api.Errno) bool {
	h.t.Helper()
	if e != api.OK && (e != api.ErrIO || !h.d.Off()) {
		h.t.Fatal("a call is refused, and not by the disk:", e)
	}
	h.cut = e != api.OK
	return !h.cut
}

// do calls something that changes the store, and keeps what it should be then.
func (h *history) do(call func() api.Errno, worded func(x *words)) {
	h.t.Helper()
	if h.cut || !h.note(call()) {
		return
	}
	next := h.last().fork()
	worded(next)
	h.states = append(h.states, next)
}

func (h *history) write(n int, b []byte) {
	h.t.Helper()
	h.do(func() api.Errno { return h.s.Write(n, b) }, func(x *words) { x.write(n, b) })
}

func (h *history) move() {
	h.t.Helper()
	h.do(func() api.Errno { return h.s.Move() }, func(x *words) { x.move() })
}

func (h *history) change(rekeying bool, epochs ...int) {
	h.t.Helper()
	keys := make([]byte, 512)
	for i, epoch := range epochs {
		keys[i] = byte(epoch)
	}
	extra := []api.Redo{{Block: h.last().l.Keys, Bytes: keys}}
	h.do(func() api.Errno { return h.s.Change(rekeying, ringOf(epochs...), extra) }, func(x *words) { x.change(rekeying, ringOf(epochs...), extra) })
}

// step goes on with a rekey, or begins one.
func (h *history) step() {
	h.t.Helper()
	root, epoch := h.last().root, h.last().ring[0].Epoch
	switch {
	case !root.Rekeying:
		h.change(true, epoch, epoch+1)
	case root.Frontier == h.last().h.Sectors:
		h.change(false, epoch+1)
	default:
		h.move()
	}
}

// settle calls something that makes all changes sure.
func (h *history) settle(call func() api.Errno) {
	h.t.Helper()
	if !h.cut && h.note(call()) {
		h.sure = len(h.states) - 1
	}
}

// is tells whether the disk has a state; if it has its root, all else must be there too.
func (h *history) is(x *words) bool {
	h.t.Helper()
	if h.open(x) != api.OK || h.s.Root() != x.root {
		return false
	}
	for n := range x.h.Sectors {
		if b, e := h.s.Read(n); e != api.OK || !bytes.Equal(b, x.read(n)) {
			h.t.Fatalf("sector %d: %d, or not as at the root's moment", n, e)
		}
	}
	for n, want := range x.blocks {
		if b, e := h.c.Read(n); e != api.OK || !bytes.Equal(b, want) {
			h.t.Fatalf("block %d: %d, or not as at the root's moment", n, e)
		}
	}
	return true
}

// crashed is the history behind a crash, on a disk of its own: what the store reads is held against the promise.
func (h *history) crashed(keep []api.Kept) *history {
	h.t.Helper()
	next := &history{t: h.t, d: h.d.Fork()}
	if e := next.d.Crash(keep); e != api.OK {
		h.t.Fatal("Crash", e)
	}
	for k := len(h.states) - 1; k >= h.sure; k-- {
		if next.is(h.states[k]) {
			next.states = []*words{h.states[k]}
			return next
		}
	}
	h.t.Fatalf("sectors are as none of the changes from %d to %d left them, behind a crash that kept %v", h.sure, len(h.states)-1, keep)
	return nil
}

// script is calls one behind the other; the power may go in any of them.
func script(h *history, source *sample.Source) {
	write := func(n int) func() { return func() { h.write(n, source.Bytes(512)) } }
	flush := func() { h.settle(func() api.Errno { return h.s.Flush() }) }
	clean := func() { h.settle(func() api.Errno { return h.s.Clean() }) }
	for _, call := range []func(){
		write(0), write(4), flush, write(0), write(9),
		h.step, write(5), h.step, write(1), write(7), flush, h.step,
		write(3), clean, write(9), h.step, h.step,
		clean, write(6), h.step,
	} {
		if !h.cut {
			call()
		}
	}
}

// P19.6: a crash behind each step of some calls, whatever lasts.
func TestEachCrash(t *testing.T) {
	source := sample.Source(21)
	for _, head := range []api.Head{headOf(10, 4, 16), headOf(10, 4, 40)} {
		stop := 0
		for ; ; stop++ {
			h := newHistory(t, head)
			if e := h.open(h.last()); e != api.OK {
				t.Fatal("New", e)
			}
			h.d.Stop(stop)
			script(h, &source)
			for keep := range source.Keeps(h.d.Unsure(), 10) {
				h.crashed(keep)
			}
			if !h.cut {
				break
			}
		}
		if stop < 100 {
			t.Errorf("%d steps in all", stop)
		}
	}
}

// P19.5, P19.6: crashes one after the other, in the middle of rekeys, till some are done.
func TestCrashesOneAfterTheOther(t *testing.T) {
	for run := range 12 {
		source := sample.Source(40 + run)
		h := newHistory(t, headOf(6+source.Below(20), 1+source.Below(6), 16+source.Below(10)))
		if e := h.open(h.last()); e != api.OK {
			t.Fatal("New", e)
		}
		crashes := 0
		for h.last().ring[0].Epoch < 4 {
			if source.Below(3) == 0 {
				h.d.Stop(source.Below(60))
			}
			for range 1 + source.Below(12) {
				h.anyCall(&source)
			}
			keep := slices.Collect(source.Keeps(h.d.Unsure(), 20))
			h = h.crashed(keep[source.Below(len(keep))])
			if crashes++; crashes > 2000 {
				t.Fatal("no rekey comes to its end")
			}
		}
		if crashes < 3 {
			t.Errorf("%d crashes", crashes)
		}
	}
}

// anyCall is one that the store does not refuse by itself.
func (h *history) anyCall(source *sample.Source) {
	h.t.Helper()
	switch source.Below(12) {
	case 0:
		h.settle(func() api.Errno { return h.s.Flush() })
	case 1:
		h.settle(func() api.Errno { return h.s.Clean() })
	case 2, 3, 4, 5, 6:
		h.step()
	default:
		h.write(source.Below(h.last().h.Sectors), source.Bytes(512))
	}
}

// P19.6: a change without a flush may be lost by a crash, whole; behind a flush it is there.
func TestWholeOrNotAtAll(t *testing.T) {
	source := sample.Source(22)
	base := newHistory(t, headOf(10, 4, 40))
	base.open(base.last())
	for _, n := range []int{0, 1, 2, 5} {
		base.write(n, source.Bytes(512))
	}
	base.step()
	base.settle(func() api.Errno { return base.s.Flush() })
	for name, call := range map[string]func(h *history){
		"Write":  func(h *history) { h.write(1, source.Bytes(512)) },
		"Move":   func(h *history) { h.move() },
		"Change": func(h *history) { h.change(true, 1, 2) },
	} {
		h := base.crashed(nil)
		call(h)
		ahead, behind := 0, 0
		for keep := range source.Keeps(h.d.Unsure(), 50) {
			if next := h.crashed(keep); next.last() == h.last() {
				behind++
			} else {
				ahead++
			}
		}
		if ahead == 0 || behind == 0 {
			t.Errorf("%s: lost by %d crashes, kept by %d", name, ahead, behind)
		}
		h.settle(func() api.Errno { return h.s.Flush() })
		if next := h.crashed(nil); next.last() != h.last() {
			t.Errorf("%s: it was flushed, and is not there", name)
		}
	}
}
