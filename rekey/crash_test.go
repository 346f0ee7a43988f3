package rekey

import (
	"slices"
	"testing"

	"casket/api"
	"casket/plan"
	"casket/sample"
	"casket/sector"
)

func moveOf(s *sector.Store) api.Errno {
	return s.Move()
}

// P23.3: crashes one after the other, also in the middle of a step: as many steps as Left told at first, and one more a crash at most; no sector reads otherwise.
func TestCrashes(t *testing.T) {
	cut := 0
	for run := range 40 {
		source := sample.Source(200 + run)
		segment := 1 + source.Below(7)
		v := newVolume(t, headOf(4+source.Below(30), segment, 16+segment+source.Below(10)), keysOf(1, freshOf(1)))
		for range 12 {
			v.fill(&source, source.Below(v.h.Sectors))
		}
		v.begin()
		v.flush()
		bound, steps, crashes, frontier := v.left(), 0, 0, 0
		for v.s.Root().Rekeying {
			if source.Below(2) == 0 {
				v.stop(source.Below(40))
			}
			done, e := v.step("on", v.h)
			if e == api.OK {
				steps++
			}
			if e == api.OK && done {
				break
			}
			if e != api.OK {
				cut++
			}
			if e == api.OK && source.Below(2) == 0 {
				v.stop(-1)
				if !v.d.Off() {
					v.flush()
					frontier = v.s.Root().Frontier
				}
			}
			keep := slices.Collect(source.Keeps(v.d.Unsure(), 20))
			v.crash(keep[source.Below(len(keep))])
			crashes++
			v.reads("behind a crash")
			if got := v.s.Root(); got.Rekeying && got.Frontier < frontier {
				t.Fatalf("the frontier fell from %d to %d", frontier, got.Frontier)
			}
			if want, _ := plan.Steps(v.h, v.s.Root()); v.left() != want {
				t.Fatalf("%d left, not %d", v.left(), want)
			}
			if crashes > 3000 {
				t.Fatal("no rekey comes to its end")
			}
		}
		if steps > bound+crashes || bound+crashes > plan.Bound(v.h, crashes) {
			t.Errorf("%d steps, where %d were left at first, and %d crashes", steps, bound, crashes)
		}
		v.keyBlock("at the end", keysOf(2, freshOf(2)))
		v.reads("at the end")
	}
	if cut < 20 {
		t.Errorf("%d steps were cut off", cut)
	}
}

// P23.1, P23.2: a crash behind each step of a whole rekey, whatever lasts: the keys in their block are those that the root asks for, and the rekey comes to its end, by as many steps as Left tells then.
func TestEachCrash(t *testing.T) {
	source := sample.Source(10)
	base := newVolume(t, headOf(6, 4, 16), keysOf(1, freshOf(1)))
	base.fill(&source, 0, 2, 4, 5)
	base.flush()
	for stop := 0; ; stop++ {
		v := base.fork()
		v.stop(stop)
		e := v.start("begin", v.h, freshOf(2))
		for done := false; e == api.OK && !done; {
			done, e = v.step("on", v.h)
		}
		for keep := range source.Keeps(v.d.Unsure(), 12) {
			next := &volume{t: t, h: v.h, l: v.l, plain: v.plain}
			next.d, next.twin.d = v.d.Fork(), v.twin.d.Fork()
			next.crash(keep)
			next.reads("behind a crash")
			if !next.s.Root().Rekeying && next.s.Ring()[0].Epoch == 1 {
				next.begin()
			}
			for left := next.left(); left > 0; left-- {
				if done := next.goOn(); done != (left == 1) {
					t.Fatalf("%d left: %v", left, done)
				}
			}
			next.keyBlock("at the end", keysOf(2, freshOf(2)))
			next.reads("at the end")
		}
		if e == api.OK {
			if stop < 50 {
				t.Errorf("%d steps in all", stop)
			}
			return
		}
	}
}
