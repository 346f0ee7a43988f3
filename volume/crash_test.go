package volume

import (
	"bytes"
	"slices"
	"testing"

	"casket/api"
	"casket/disk"
	"casket/plan"
	"casket/sample"
)

// history is what was done to a volume since it was opened.
type history struct {
	t      *testing.T
	d      *disk.Disk
	v      *Volume
	states []*state // at first, and behind each change, one that was cut off too, as far as it may have come
	sure   int      // the last one that is sure
	cut    bool     // a call was cut off
}

// newHistory is of a volume that was never written.
func newHistory(t *testing.T, h api.Head) *history {
	t.Helper()
	s := newState(h, "one")
	s.opens("one")
	d := formatted(t, h, "one")
	return &history{t: t, d: d, v: opened(t, d, "one"), states: []*state{s}}
}

// last is what the volume should be.
func (h *history) last() *state {
	return h.states[len(h.states)-1]
}

// do calls something, and keeps what the volume is behind each of the changes that it makes. If it was cut off, each of them may be there, or not.
func (h *history) do(call func() api.Errno, settles bool, changes ...func(s *state)) {
	h.t.Helper()
	if h.cut {
		return
	}
	e := call()
	if e != api.OK && (e != api.ErrIO || !h.d.Off()) {
		h.t.Fatal("a call is refused, and not by the disk:", e)
	}
	h.cut = e != api.OK
	for _, change := range changes {
		next := h.last().fork()
		change(next)
		h.states = append(h.states, next)
	}
	if settles && !h.cut {
		h.sure = len(h.states) - 1
	}
}

func (h *history) write(n int, b []byte) {
	h.t.Helper()
	h.do(func() api.Errno { return h.v.Write(n, b) }, false, func(s *state) { s.write(n, b) })
}

func (h *history) flush() {
	h.t.Helper()
	h.do(func() api.Errno { return h.v.Flush() }, true)
}

func (h *history) slotAdd(at int, password string, salt [16]byte) {
	h.t.Helper()
	h.do(func() api.Errno { return h.v.SlotAdd(at, []byte(password), salt) }, true, func(s *state) { s.slotAdd(at, password) })
}

func (h *history) slotRevoke(at int) {
	h.t.Helper()
	h.do(func() api.Errno { return h.v.SlotRevoke(at) }, true, func(s *state) { s.slotRevoke(at) })
}

// rekey begins one, or goes on with it.
func (h *history) rekey() {
	h.t.Helper()
	s := h.last()
	if !s.rekeying {
		h.do(func() api.Errno { return h.v.RekeyStart(keysOf(s.epoch + 1)) }, false, func(s *state) { s.rekeyStart() })
		return
	}
	var changes []func(s *state)
	frontier := s.frontier
	if frontier < s.h.Sectors {
		changes = append(changes, (*state).move)
		frontier = min(frontier+s.h.Segment, s.h.Sectors)
	}
	ends := frontier == s.h.Sectors
	if ends {
		changes = append(changes, (*state).end)
	}
	h.do(func() api.Errno {
		done, e := h.v.RekeyStep()
		if e == api.OK && done != ends {
			h.t.Fatalf("RekeyStep: %v", done)
		}
		return e
	}, ends, changes...)
}

// slot changes one that may be changed, if there is one.
func (h *history) slot(source *sample.Source) {
	h.t.Helper()
	s := h.last()
	at := source.Below(s.h.Slots)
	_, has := s.slots[at]
	switch {
	case s.rekeying:
		h.rekey()
	case !has:
		h.slotAdd(at, string(source.Bytes(4)), saltOf(source.Below(1000)))
	case len(s.slots) > 1:
		h.slotRevoke(at)
	}
}

// crashed is the history behind a crash, on a disk of its own: the volume opens, and is as at one moment since it was sure.
func (h *history) crashed(keep []api.Kept) *history {
	h.t.Helper()
	next := &history{t: h.t, d: h.d.Fork()}
	if e := next.d.Crash(keep); e != api.OK {
		h.t.Fatal("Crash", e)
	}
	s := h.found(next.d)
	next.is(s)
	// Opened anew behind another crash, it is the same.
	next.d.Crash(nil)
	next.is(s)
	next.states = []*state{s}
	return next
}

// found is the state that a disk has: its counter tells which one.
func (h *history) found(d *disk.Disk) *state {
	h.t.Helper()
	moments := h.states[h.sure:]
	for _, s := range moments {
		for _, password := range s.slots {
			v, e := Open(d, []byte(password))
			if e == api.ErrNoKey {
				continue
			}
			if e != api.OK {
				h.t.Fatalf("Open: %d", e)
			}
			i, e := v.Info()
			at := slices.IndexFunc(moments, func(s *state) bool { return s.counter == i.Counter })
			if e != api.OK || at < 0 {
				h.t.Fatalf("%+v, %d: none of the changes from %d to %d left that", i, e, h.sure, len(h.states)-1)
			}
			return moments[at]
		}
	}
	h.t.Fatal("no passphrase opens it")
	return nil
}

// is asks that a volume has a state, by each of its passphrases, and by no other one.
func (h *history) is(s *state) {
	h.t.Helper()
	for _, password := range s.slots {
		h.v = opened(h.t, h.d, password)
		s.opens(password)
		i, e := h.v.Info()
		if want, _ := s.info(); e != api.OK || !sameInfo(i, want) {
			h.t.Fatalf("%+v, %d, not %+v", i, e, want)
		}
		for n := range s.h.Sectors {
			if b, e := h.v.Read(n); e != api.OK || !bytes.Equal(b, s.has(n)) {
				h.t.Fatalf("sector %d: %d, or not as at the root's moment", n, e)
			}
		}
	}
	opensNot(h.t, "none of its passphrases", h.d, "none of its passphrases", api.ErrNoKey)
}

// script is calls one behind the other; the power may go in any of them.
func script(h *history, source *sample.Source) {
	write := func(n int) func() { return func() { h.write(n, source.Bytes(512)) } }
	add := func(at int, password string) func() { return func() { h.slotAdd(at, password, saltOf(at)) } }
	revoke := func(at int) func() { return func() { h.slotRevoke(at) } }
	for _, call := range []func(){
		write(0), write(4), h.flush, write(0), write(5), add(1, "two"), write(2), revoke(0),
		h.rekey, write(3), h.rekey, write(1), h.rekey, write(5), add(2, "three"), write(0),
	} {
		if !h.cut {
			call()
		}
	}
}

// P24.6, P2: a crash behind each step of some calls, whatever lasts.
func TestEachCrash(t *testing.T) {
	source := sample.Source(21)
	for _, head := range []api.Head{headOf(6, 3, 4, 16), headOf(6, 3, 4, 60)} {
		stop := 0
		for ; ; stop++ {
			h := newHistory(t, head)
			h.d.Stop(stop)
			script(h, &source)
			for keep := range source.Keeps(h.d.Unsure(), 4) {
				h.crashed(keep)
			}
			if !h.cut {
				break
			}
		}
		if stop < 130 {
			t.Errorf("%d steps in all", stop)
		}
	}
}

// P24.6, P24.8, P5: crashes one after the other, in the middle of rekeys and of changes of slots, till some rekeys are done: each takes as many steps as there are segments, and one more a crash at most.
func TestCrashesOneAfterTheOther(t *testing.T) {
	for run := range 16 {
		source := sample.Source(40 + run)
		segment := 1 + source.Below(6)
		h := newHistory(t, headOf(3+source.Below(16), 1+source.Below(3), segment, 16+segment+source.Below(10)))
		crashes, steps := 0, 0
		for h.last().epoch < 4 || h.last().rekeying {
			if source.Below(3) == 0 {
				h.d.Stop(source.Below(80))
			}
			for range 1 + source.Below(12) {
				before := h.last().frontier + 10000*h.last().epoch
				h.anyCall(&source)
				if now := h.last().frontier + 10000*h.last().epoch; now != before && !h.cut {
					steps++
				}
			}
			keep := slices.Collect(source.Keeps(h.d.Unsure(), 20))
			h = h.crashed(keep[source.Below(len(keep))])
			if crashes++; crashes > 2000 {
				t.Fatal("no rekey comes to its end")
			}
		}
		rekeys := h.last().epoch - 1
		if most := rekeys*plan.Bound(h.last().h, 0) + rekeys + crashes; crashes < 3 || steps > most {
			t.Errorf("%d crashes, %d steps, not %d at most", crashes, steps, most)
		}
	}
}

// anyCall is one that the volume does not refuse by itself.
func (h *history) anyCall(source *sample.Source) {
	h.t.Helper()
	switch source.Below(14) {
	case 0:
		h.flush()
	case 1, 2:
		h.slot(source)
	case 3, 4, 5, 6, 7:
		h.rekey()
	default:
		h.write(source.Below(h.last().h.Sectors), source.Bytes(512))
	}
}

// P24.6: what was flushed is there; a change without a flush may be lost, whole, and may be there.
func TestFlushedOrNot(t *testing.T) {
	source := sample.Source(22)
	base := newHistory(t, headOf(6, 3, 4, 40))
	base.write(1, source.Bytes(512))
	base.flush()
	for name, call := range map[string]func(h *history){
		"Write":      func(h *history) { h.write(1, source.Bytes(512)) },
		"RekeyStart": func(h *history) { h.rekey() },
	} {
		h := base.crashed(nil)
		call(h)
		ahead, behind := 0, 0
		for keep := range source.Keeps(h.d.Unsure(), 50) {
			if next := h.crashed(keep); next.last() == h.last() {
				behind++
			} else {
				ahead++
			}
		}
		if ahead == 0 || behind == 0 {
			t.Errorf("%s: lost by %d crashes, kept by %d", name, ahead, behind)
		}
		h.flush()
		if next := h.crashed(nil); next.last() != h.last() {
			t.Errorf("%s: it was flushed, and is not there", name)
		}
	}
	// Changes of slots, and a rekey's end, are sure at once.
	h := base.crashed(nil)
	look := func(name string) {
		t.Helper()
		if h.sure != len(h.states)-1 || len(h.d.Unsure()) != 0 {
			t.Errorf("%s: unsure %v", name, h.d.Unsure())
		}
		h = h.crashed(nil)
	}
	h.slotAdd(1, "two", saltOf(2))
	look("SlotAdd")
	h.slotRevoke(0)
	look("SlotRevoke")
	h.rekey()
	h.rekey()
	h.rekey()
	look("the last RekeyStep")
}

// P2: a journal that is full is written home, and never told of.
func TestFullJournal(t *testing.T) {
	source := sample.Source(23)
	h := newHistory(t, headOf(20, 2, 2, 16))
	for range 200 {
		h.write(source.Below(20), source.Bytes(512))
	}
	h.is(h.last())
	h.flush()
	h.crashed(nil)
}
