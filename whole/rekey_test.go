package whole

import (
	"bytes"
	"testing"

	"casket/api"
	"casket/audit"
	"casket/plan"
	"casket/sample"
	"casket/volume"
)

// P5: a rekey takes just as many steps as there are segments; no step changes a read, and the frontier rises.
func TestSteps(t *testing.T) {
	for _, head := range []api.Head{headOf(1, 1, 1, 16), headOf(1, 1, 6, 16), headOf(10, 1, 4, 20), headOf(16, 1, 4, 20), headOf(17, 1, 16, 30), headOf(33, 1, 1, 20)} {
		source := sample.Source(head.Sectors)
		h := newHistory(t, head)
		for n := range head.Sectors {
			if n%3 != 1 {
				h.write(n, source.Bytes(512))
			}
		}
		for range 2 {
			h.rekey()
			h.steps = 0
			for h.info().Left > 0 {
				h.reads(h.last())
				h.report([]byte("one"), h.last(), h.info())
				h.rekey()
			}
			if h.steps != plan.Bound(head, 0) {
				t.Errorf("%+v: %d steps", head, h.steps)
			}
			h.crash(nil)
		}
	}
}

// P5, P2: one crash, behind each write and each flush of a rekey: one step more at most.
func TestOneCrashInARekey(t *testing.T) {
	head := headOf(8, 1, 3, 19)
	source := sample.Source(8)
	base := newHistory(t, head)
	for n := range 8 {
		base.write(n, source.Bytes(512))
	}
	base.rekey()
	base.flush()
	more := 0
	for stop := 0; ; stop++ {
		h := *base
		h.d = base.d.Fork()
		h.crash(nil)
		h.crashes, h.steps, h.frontier = 0, 0, 0
		h.d.Stop(stop)
		for h.info().Left > 0 && !h.cut {
			h.rekey()
		}
		if !h.cut {
			if stop < 60 {
				t.Errorf("%d steps in all", stop)
			}
			break
		}
		h.crash(h.oneOf(&source))
		for h.info().Left > 0 {
			h.rekey()
		}
		if h.steps > plan.Bound(head, 1) {
			t.Errorf("a crash behind %d: %d steps", stop, h.steps)
		}
		if h.steps == plan.Bound(head, 1) {
			more++
		}
		h.crash(nil)
	}
	if more == 0 {
		t.Error("no crash took a step back")
	}
}

// P5: at the largest: a rekey of all sectors, with calls of all kinds in between, and reports of it.
func TestRekeyOfTheLargest(t *testing.T) {
	source := sample.Source(9)
	head := headOf(1024, 8, 16, 256)
	d := formatted(t, head, 1)
	v := opened(t, d, "one")
	has := map[int][]byte{}
	write := func(n int) {
		has[n] = source.Bytes(512)
		if e := v.Write(n, has[n]); e != api.OK {
			t.Fatal("Write", e)
		}
	}
	for n := 0; n < 1024; n += 1 + source.Below(3) {
		write(n)
	}
	if e := v.RekeyStart(keysOf(2)); e != api.OK {
		t.Fatal("RekeyStart", e)
	}
	for step := range 64 {
		write(source.Below(1024))
		done, e := v.RekeyStep()
		if done != (step == 63) || e != api.OK {
			t.Fatalf("step %d: %v, %d", step, done, e)
		}
		if step == 30 {
			d.Crash(nil)
			var e api.Errno
			if v, e = volume.Open(d, []byte("one")); e != api.OK {
				t.Fatal("Open", e)
			}
			if done, e := v.RekeyStep(); done || e != api.OK { // the one that was lost
				t.Fatalf("step %d again: %v, %d", step, done, e)
			}
		}
	}
	r, e := audit.Report(d, []byte("one"))
	if e != api.OK || len(r.Bad) != 0 || r.Used != 0 || len(r.Dirty) != 0 || r.Root.Rekeying {
		t.Fatalf("Report: %v, %d", r.Bad, e)
	}
	for n, epoch := range r.Epochs {
		b, e := v.Read(n)
		want, written := has[n]
		if !written {
			want = make([]byte, 512)
		}
		if e != api.OK || !bytes.Equal(b, want) || epoch != map[bool]int{true: 2}[written] {
			t.Fatalf("sector %d: epoch %d, %d, or other bytes", n, epoch, e)
		}
	}
}
