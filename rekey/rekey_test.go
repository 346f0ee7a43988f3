package rekey

import (
	"bytes"
	"slices"
	"testing"

	"casket/api"
	"casket/plan"
	"casket/sample"
	"casket/seal"
	"casket/wrap"
)

// P23.1, P23.2: the chapter's example.
func TestExample(t *testing.T) {
	v := newVolume(t, headOf(10, 4, 20), keysOf(1, freshOf(1)))
	if e := Start(v.s, v.h, masterKey, freshOf(2)); e != api.OK {
		t.Fatal("Start", e)
	}
	for i, want := range []bool{false, false, true} {
		if left, e := Left(v.s, v.h); left != 3-i || e != api.OK {
			t.Errorf("step %d: %d left, %d", i, left, e)
		}
		if done, e := Step(v.s, v.h, masterKey); done != want || e != api.OK {
			t.Errorf("step %d: %v, %d", i, done, e)
		}
	}
	if left, e := Left(v.s, v.h); left != 0 || e != api.OK {
		t.Errorf("at the end: %d left, %d", left, e)
	}
}

// P23.1: both epochs' keys are in the ring and in the block of keys, the new ones made of the fresh bytes; the root tells of a rekey; no sector is touched.
func TestStart(t *testing.T) {
	source := sample.Source(1)
	for _, epoch := range []int{1, 2, 77, 1<<31 - 1, 1 << 31, 1<<32 - 2} {
		old := keysOf(epoch, freshOf(1))
		v := newVolume(t, headOf(20, 4, 30), old)
		v.fill(&source, 3, 4, 19)
		v.clean()
		before, blocks := v.s.Root(), v.d.Fork()
		v.begin()
		next := keysOf(epoch+1, freshOf(epoch+1))
		v.keyBlock("begun", old, next)
		before.Counter++
		before.Rekeying = true
		if got := v.s.Root(); got != before {
			t.Errorf("root %+v, not %+v", got, before)
		}
		if got := v.c.Dirty(); !slices.Equal(got, []int{v.l.Keys, v.l.Root}) || v.c.Used() != 4 {
			t.Errorf("dirty %d, used %d: not one change of keys and root", got, v.c.Used())
		}
		for n := v.l.Tree; n < v.l.Blocks; n++ {
			if !bytes.Equal(v.d.Sure(n), blocks.Sure(n)) {
				t.Errorf("block %d is another one", n)
			}
		}
		v.reads("begun")
		v.open()
		v.keyBlock("opened anew", old, next)
		for !v.goOn() {
		}
		v.keyBlock("at the end", next)
		v.reads("at the end")
	}
}

// P23.1: each half of the fresh bytes is a key, whole.
func TestFreshBytes(t *testing.T) {
	for place := range 64 {
		var fresh [64]byte
		fresh[place] = 0xa5
		v := newVolume(t, headOf(4, 4, 20), keysOf(1, freshOf(1)))
		if e := v.start("a byte", v.h, fresh); e != api.OK {
			t.Fatal("Start", e)
		}
		var want api.EpochKeys
		want.Epoch = 2
		if place < 32 {
			want.Data[place] = 0xa5
		} else {
			want.Tag[place-32] = 0xa5
		}
		if got := v.s.Ring()[1]; got != want {
			t.Errorf("byte %d: %v", place, got)
		}
	}
}

// P23.1, P23.2: no store.
func TestNoStore(t *testing.T) {
	for _, h := range append(sample.WrongHeads(headOf(20, 4, 20)), headOf(20, 4, 20)) {
		if e := Start(nil, h, masterKey, freshOf(2)); e != api.ErrClosed {
			t.Errorf("Start: %d", e)
		}
		if done, e := Step(nil, h, masterKey); done || e != api.ErrClosed {
			t.Errorf("Step: %v, %d", done, e)
		}
		if left, e := Left(nil, h); left != 0 || e != api.ErrClosed {
			t.Errorf("Left: %d, %d", left, e)
		}
	}
}

// P23.1: a rekey is on, ahead of all else, at each frontier, and also where there is no next epoch.
func TestStartWhileOneIsOn(t *testing.T) {
	for _, epoch := range []int{1, 1<<32 - 2} {
		v := newVolume(t, headOf(20, 4, 20), keysOf(epoch, freshOf(1)))
		v.begin()
		for done := false; !done; done = v.goOn() {
			for _, h := range append(sample.WrongHeads(v.h), v.h) {
				if e := v.start("on", h, freshOf(9)); e != api.ErrBusy {
					t.Errorf("frontier %d: %d", v.s.Root().Frontier, e)
				}
			}
		}
	}
}

// P23.1: behind the last epoch there is none, and that is told ahead of a header that may not be.
func TestStartBehindTheLastEpoch(t *testing.T) {
	source := sample.Source(2)
	v := newVolume(t, headOf(6, 4, 20), keysOf(1<<32-2, freshOf(1)))
	v.fill(&source, 3)
	v.begin()
	for !v.goOn() {
	}
	for range 2 {
		for _, h := range append(sample.WrongHeads(v.h), v.h) {
			if e := v.start("the last one", h, freshOf(9)); e != api.ErrFull {
				t.Errorf("%d", e)
			}
		}
		v.keyBlock("refused", keysOf(1<<32-1, freshOf(1<<32-1)))
		v.reads("refused")
		v.open()
	}
	if done, e := v.step("none is on", v.h); done || e != api.ErrIdle {
		t.Errorf("Step: %v, %d", done, e)
	}
}

// P23.1: what keyring.Keys refuses, ahead of what the disk does; nothing is changed.
func TestStartOfWrongHeads(t *testing.T) {
	v := newVolume(t, headOf(20, 4, 20), keysOf(1, freshOf(1)))
	look := func() {
		t.Helper()
		for _, h := range sample.WrongHeads(v.h) {
			if e := v.start("a header", h, freshOf(2)); e != api.ErrArg {
				t.Errorf("%+v: %d", h, e)
			}
		}
	}
	look()
	v.begin()
	for !v.goOn() {
	}
	v.stop(0)
	look()
}

// P23.1: what committing refuses leaves no rekey.
func TestStartIsCutOff(t *testing.T) {
	source := sample.Source(3)
	base := newVolume(t, headOf(20, 4, 16), keysOf(1, freshOf(1)))
	base.fill(&source, 2, 7)
	for stop := 0; ; stop++ {
		v := base.fork()
		v.stop(stop)
		if e := v.start("cut off", v.h, freshOf(2)); e == api.OK {
			if stop < 10 {
				t.Errorf("%d steps in all", stop)
			}
			return
		} else if e != api.ErrIO || v.s.Root().Rekeying || len(v.s.Ring()) != 1 {
			t.Errorf("behind %d steps: %d, %+v", stop, e, v.s.Root())
		}
		if left, e := Left(v.s, v.h); left != 0 || e != api.OK {
			t.Errorf("behind %d steps: %d left, %d", stop, left, e)
		}
	}
}

// P23.2: no rekey is on, whatever the header is; nothing is changed.
func TestStepWithoutARekey(t *testing.T) {
	v := newVolume(t, headOf(20, 4, 20), keysOf(1, freshOf(1)))
	look := func(what string) {
		t.Helper()
		for _, h := range append(sample.WrongHeads(v.h), v.h) {
			if done, e := v.step(what, h); done || e != api.ErrIdle {
				t.Errorf("%s: %v, %d", what, done, e)
			}
		}
	}
	look("at first")
	v.begin()
	for !v.goOn() {
	}
	look("at the end")
	v.stop(0)
	look("off")
}

// P23.2, P23.3: whole rekeys of volumes of many sizes: as many steps as Left told, each as worded, none of which changes a read.
func TestWholeRekeys(t *testing.T) {
	for _, sectors := range []int{1, 2, 7, 8, 9, 16, 17, 40, 129, 300, 1024} {
		for _, segment := range []int{1, 3, 8, 15, 16} {
			if sectors/segment > 65 {
				continue // it would be many alike
			}
			source := sample.Source(1000*sectors + segment)
			v := newVolume(t, headOf(sectors, segment, max(16, segment+10)), keysOf(1, freshOf(1)))
			for range min(sectors, 30) {
				v.fill(&source, source.Below(sectors))
			}
			for range 2 {
				v.begin()
				left := v.left()
				if want := (sectors + segment - 1) / segment; left != want {
					t.Fatalf("%d sectors by %d: %d left, not %d", sectors, segment, left, want)
				}
				for ; left > 0; left-- {
					if source.Below(4) == 0 {
						v.fill(&source, source.Below(sectors))
					}
					if source.Below(6) == 0 {
						v.open()
					}
					if got := v.left(); got != left {
						t.Fatalf("%d sectors by %d: %d left, not %d", sectors, segment, got, left)
					}
					if done := v.goOn(); done != (left == 1) {
						t.Fatalf("%d sectors by %d, %d left: %v", sectors, segment, left, done)
					}
				}
				v.reads("at the end")
			}
		}
	}
}

// P23.3: no step changes a read.
func TestStepsChangeNoRead(t *testing.T) {
	source := sample.Source(4)
	v := newVolume(t, headOf(37, 5, 20), keysOf(1, freshOf(1)))
	for n := range 37 {
		if n%4 != 2 {
			v.fill(&source, n)
		}
	}
	v.begin()
	v.reads("begun")
	for done := false; !done; {
		done = v.goOn()
		v.reads("a step")
		v.open()
		v.reads("opened anew")
	}
}

// P23.2: of a rekey that has taken all sectors, as a crash leaves it, a step ends it, and moves nothing.
func TestStepAtTheLastFrontier(t *testing.T) {
	source := sample.Source(5)
	v := newVolume(t, headOf(10, 4, 20), keysOf(1, freshOf(1)))
	v.fill(&source, 0, 5, 9)
	v.begin()
	for range 3 {
		v.both("Move", moveOf)
	}
	if got := v.left(); got != 1 || v.s.Root().Frontier != 10 {
		t.Fatalf("%d left, %+v", got, v.s.Root())
	}
	v.flush()
	v.crash(nil)
	if got := v.left(); got != 1 {
		t.Fatalf("%d left", got)
	}
	want := v.s.Root()
	want.Counter++
	want.Rekeying, want.Frontier = false, 0
	if !v.goOn() {
		t.Error("it is not at its end")
	}
	if got := v.s.Root(); got != want {
		t.Errorf("root %+v, not %+v", got, want)
	}
	v.reads("at the end")
}

// P23.2: what the store's Move refuses, ahead of all else; the rekey goes on when that is mended.
func TestStepIsRefused(t *testing.T) {
	source := sample.Source(6)
	v := newVolume(t, headOf(10, 4, 20), keysOf(1, freshOf(1)))
	for n := range 10 {
		v.fill(&source, n)
	}
	v.begin()
	v.clean()
	for done := false; !done; {
		frontier := v.s.Root().Frontier
		block := v.l.Data + frontier
		right := v.d.Sure(block)
		v.tamper(block, source.Bytes(512))
		for _, h := range []api.Head{v.h, {Sectors: 10}} {
			if done, e := v.step("not what was written", h); done || e != api.ErrIntegrity || v.s.Root().Frontier != frontier {
				t.Errorf("frontier %d: %v, %d", frontier, done, e)
			}
		}
		v.tamper(block, right)
		done = v.goOn()
		v.clean()
	}
	v.reads("at the end")
}

// P23.2: Sectors are the header's that is handed in: with others a step does what the chapter's words say of these.
func TestStepOfOtherHeads(t *testing.T) {
	source := sample.Source(7)
	base := newVolume(t, headOf(10, 4, 20), keysOf(1, freshOf(1)))
	base.fill(&source, 0, 5, 9)
	base.begin()
	for moves := range 4 {
		for _, sectors := range []int{-1, 0, 1, 4, 8, 9, 10, 11, 1024, 1025} {
			v := base.fork()
			for range moves {
				v.both("Move", moveOf)
			}
			for range 5 {
				v.step("other sectors", api.Head{Sectors: sectors})
				h := v.h
				h.Sectors = sectors
				v.step("other sectors", h)
			}
		}
	}
	// At the last step a header that may not be is refused behind the Move; the right one ends the rekey then.
	v := base.fork()
	v.goOn()
	v.goOn()
	if done, e := v.step("no header", api.Head{Sectors: 10}); done || e != api.ErrArg || v.s.Root().Frontier != 10 || !v.s.Root().Rekeying {
		t.Errorf("%v, %d, %+v", done, e, v.s.Root())
	}
	if !v.goOn() {
		t.Error("it is not at its end")
	}
	v.reads("at the end")
}

// P23.2: Left is plan's, by the store's root.
func TestLeft(t *testing.T) {
	v := newVolume(t, headOf(20, 3, 20), keysOf(1, freshOf(1)))
	look := func() {
		t.Helper()
		for _, h := range append(sample.WrongHeads(v.h), v.h, headOf(5, 3, 20), headOf(20, 1, 20), headOf(1000, 16, 30)) {
			got, e := Left(v.s, h)
			if want, f := plan.Steps(h, v.s.Root()); got != want || e != f {
				t.Errorf("%+v: %d, %d, not %d, %d", h, got, e, want, f)
			}
		}
		v.same("Left")
	}
	look()
	v.begin()
	for done := false; !done; done = v.goOn() {
		look()
	}
	look()
	v.stop(0)
	look()
}

// P23.2: the last step is cut off, behind each of what it does: it is done, once the change of the keys is, also where cleaning is refused.
func TestLastStepIsCutOff(t *testing.T) {
	source := sample.Source(8)
	base := newVolume(t, headOf(6, 4, 16), keysOf(1, freshOf(1)))
	base.fill(&source, 0, 3, 4)
	base.begin()
	base.goOn()
	moved, ended := 0, 0
	for stop := 0; ; stop++ {
		v := base.fork()
		v.stop(stop)
		done, e := v.step("cut off", v.h)
		root, epochs := v.s.Root(), len(v.s.Ring())
		if e == api.OK {
			if !done || moved == 0 || ended < 15 {
				t.Errorf("%v; cut off behind the Move %d times, in cleaning %d times", done, moved, ended)
			}
			return
		}
		if e != api.ErrIO || done == root.Rekeying || done != (epochs == 1) {
			t.Errorf("behind %d steps: %v, %d, %+v, %d epochs", stop, done, e, root, epochs)
		}
		if root.Frontier == 6 {
			moved++
		}
		if done {
			ended++
		}
		// Opened anew it is at its end, or goes on to it.
		v.crash(nil)
		v.reads("behind a crash")
		if done && ended > 1 && v.s.Root().Rekeying {
			t.Errorf("behind %d steps: what was flushed is not there", stop)
		}
		for v.left() > 0 {
			v.goOn()
		}
		v.keyBlock("at the end", keysOf(2, freshOf(2)))
		v.reads("at the end")
	}
}

// P23.4: the block of keys, the records, the journal: nothing that the old keys made is on the disk.
func TestNothingOfTheOldKeys(t *testing.T) {
	source := sample.Source(9)
	old := keysOf(1, freshOf(1))
	v := newVolume(t, headOf(37, 5, 60), old)
	var made [][]byte
	note := func() {
		for n, b := range v.plain {
			sealed, record, _ := seal.Seal(old, n, b)
			made = append(made, sealed[:16], sealed[100:132], sealed[496:], record[4:36])
		}
	}
	for n := range 30 {
		v.fill(&source, n)
	}
	note()
	v.fill(&source, 3, 4, 28)
	v.begin()
	v.goOn()
	v.goOn()
	v.fill(&source, 2, 20, 29, 35) // the last three of them still under the old keys
	note()
	for _, ring := range [][]api.EpochKeys{{old}, v.s.Ring()} {
		k, _ := wrap.Keys(v.h, masterKey, ring)
		made = append(made, k.Epochs[0].Wrapped[:16], k.Epochs[0].Wrapped[48:], k.Tag[:])
	}
	holds := func() int {
		count := 0
		for n := range v.d.Len() {
			if slices.ContainsFunc(made, func(x []byte) bool { return bytes.Contains(v.d.Sure(n), x) }) {
				count++
			}
		}
		return count
	}
	v.flush()
	if got := holds(); got < 20 {
		t.Fatalf("%d blocks hold what the old keys made, while they are in use", got)
	}
	for !v.goOn() {
	}
	if got := holds(); got != 0 || len(v.d.Unsure()) != 0 {
		t.Errorf("%d blocks hold what the old keys made; unsure %v", got, v.d.Unsure())
	}
	v.reads("at the end")
	for n := v.l.Journal + 1; n < v.l.Tree; n++ {
		if !bytes.Equal(v.d.Sure(n), make([]byte, 512)) {
			t.Errorf("the journal's block %d is not zeros", n)
		}
	}
	for n := range 37 {
		record, _ := seal.Record(v.d.Sure(v.l.Tags+n/8), n)
		want := 0
		if v.plain[n] != nil {
			want = 2
		}
		if epoch, e := seal.Epoch(record); epoch != want || e != api.OK {
			t.Errorf("sector %d lies under %d, %d", n, epoch, e)
		}
	}
}

// P23.4: two volumes that had other keys at first are the same disk at a rekey's end, and not before.
func TestNothingDependsOnTheOldKeys(t *testing.T) {
	for run := range 12 {
		var volumes []*volume
		h := headOf(5+7*run, 1+run, 22+3*run)
		for _, fresh := range [][64]byte{freshOf(1), freshOf(100), {}} {
			source := sample.Source(50 + run)
			v := newVolume(t, h, keysOf(1, fresh))
			fill := func() { v.fill(&source, source.Below(h.Sectors)) }
			for range 12 {
				fill()
			}
			if source.Below(2) == 0 {
				v.flush()
			}
			v.begin()
			for v.left() > 1 {
				v.goOn()
				fill()
			}
			v.flush()
			volumes = append(volumes, v)
		}
		first := volumes[0]
		for _, v := range volumes[1:] {
			if sample.SameDisks(first.d, v.d) {
				t.Error("they are the same ahead of the end")
			}
		}
		for _, v := range volumes {
			if !v.goOn() {
				t.Error("it is not at its end")
			}
			if !sample.SameDisks(first.d, v.d) {
				t.Errorf("run %d: another disk, by the old keys alone", run)
			}
		}
	}
}
