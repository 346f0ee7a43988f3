package whole

import (
	"slices"
	"testing"

	"casket/api"
	"casket/plan"
	"casket/sample"
	"casket/volume"
)

// oneOf is one of the things that a crash may keep.
func (h *history) oneOf(source *sample.Source) []api.Kept {
	keeps := slices.Collect(source.Keeps(h.d.Unsure(), 30))
	return keeps[source.Below(len(keeps))]
}

// P2, P3, P5: crashes one after the other, in the middle of any call, with little room in the journal and with much: all sectors read as at one moment since the last flush, each passphrase opens as then, and a rekey takes one more step a crash at most.
func TestCrashes(t *testing.T) {
	crashes, journals := 0, []int{0, 1, 30, 200}
	for run := range 32 {
		source := sample.Source(100 + run)
		segment := 1 + source.Below(6)
		head := headOf(2+source.Below(16), 1+source.Below(4), segment, 16+segment+journals[run%4])
		h := newHistory(t, head)
		for h.info().Epoch < 4 || h.info().Left > 0 {
			if source.Below(3) > 0 {
				h.d.Stop(source.Below(70))
			}
			for range 1 + source.Below(10) {
				h.anyCall(&source)
			}
			if h.crashes > 2000 {
				t.Fatal("no rekey comes to its end")
			}
			h.crash(h.oneOf(&source))
		}
		rekeys := h.info().Epoch - 1
		if most := (rekeys-1)*plan.Bound(head, 0) + plan.Bound(head, h.crashes); h.steps > most {
			t.Errorf("%d steps of %d rekeys, not %d at most", h.steps, rekeys, most)
		}
		crashes += h.crashes
	}
	if crashes < 200 {
		t.Errorf("%d crashes in all", crashes)
	}
}

// P2: a crash behind each write and each flush of all that a volume does, twice, the second time in what comes behind the first one.
func TestTwoCrashes(t *testing.T) {
	head := headOf(5, 3, 3, 19)
	script := func(h *history, from int) {
		source := sample.Source(from)
		write := func(n int) func() { return func() { h.write(n, source.Bytes(512)) } }
		calls := []func(){
			write(0), write(4), h.flush, write(0), func() { h.slot(&source) }, write(2),
			h.rekey, write(3), h.rekey, write(1), h.rekey, func() { h.slot(&source) }, write(4),
		}
		for i := range calls {
			calls[(i+from)%len(calls)]()
		}
	}
	source := sample.Source(3)
	for first := 0; ; first += 2 {
		h := newHistory(t, head)
		h.d.Stop(first)
		script(h, 0)
		if !h.cut {
			if first < 100 {
				t.Errorf("%d steps in all", first)
			}
			break
		}
		keeps := slices.Collect(source.Keeps(h.d.Unsure(), 30))
		for _, keep := range [][]api.Kept{nil, keeps[len(keeps)-1], keeps[source.Below(len(keeps))]} {
			again := *h
			again.d = h.d.Fork()
			again.crash(keep)
			again.d.Stop(source.Below(40))
			script(&again, source.Below(13))
			again.crash(again.oneOf(&source))
		}
	}
}

// noAnswer asks that each call of a volume but Close is ErrIO.
func noAnswer(t *testing.T, v *volume.Volume) {
	t.Helper()
	b, e := v.Read(0)
	i, f := v.Info()
	done, g := v.RekeyStep()
	if len(b) != 0 || len(i.Slots) != 0 || i.Epoch != 0 || done {
		t.Error("something beside an error")
	}
	for i, e := range []api.Errno{
		e, f, g, v.Write(0, make([]byte, 512)), v.Write(-1, nil), v.Flush(),
		v.SlotAdd(1, []byte("two"), saltOf(1)), v.SlotRevoke(0), v.RekeyStart(keysOf(2)),
	} {
		if e != api.ErrIO {
			t.Errorf("call %d: %d", i, e)
		}
	}
}

// P2: a disk that does not answer is told as ErrIO, and then every call is, also when the disk is on again, till the volume is opened anew; it goes on then.
func TestNoAnswer(t *testing.T) {
	source := sample.Source(4)
	for stop := range 60 {
		h := newHistory(t, headOf(6, 3, 2, 18))
		h.write(3, source.Bytes(512))
		h.flush()
		h.d.Stop(stop)
		for !h.cut {
			h.anyCall(&source)
		}
		noAnswer(t, h.v)
		keep := h.oneOf(&source)
		failed := h.v
		h.crash(keep)
		before := h.d.Fork()
		noAnswer(t, failed)
		if !sample.SameDisks(h.d, before) {
			t.Errorf("behind %d steps: the disk is another one", stop)
		}
		h.write(2, source.Bytes(512))
		h.flush()
		h.crash(nil)
	}
}

// P2: what was flushed is there behind each crash: no moment ahead of it is looked for.
func TestWhatIsSure(t *testing.T) {
	source := sample.Source(5)
	for run := range 40 {
		h := newHistory(t, headOf(6, 3, 2, 18+run))
		for range source.Below(20) {
			h.anyCall(&source)
		}
		h.flush()
		if len(h.d.Unsure()) != 0 {
			t.Errorf("unsure: %v", h.d.Unsure())
		}
		h.crash(nil)
	}
}
