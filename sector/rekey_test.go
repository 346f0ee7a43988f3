package sector

import (
	"bytes"
	"math"
	"slices"
	"testing"

	"casket/api"
	"casket/cache"
	"casket/journal"
	"casket/sample"
	"casket/seal"
)

// epochsOnDisk are those of all sectors' records, by the blocks alone.
func (v *volume) epochsOnDisk() []int {
	v.t.Helper()
	var list []int
	for n := range v.h.Sectors {
		tags, e := v.c.Read(v.l.Tags + n/8)
		if e != api.OK {
			v.t.Fatal("Read", e)
		}
		record, _ := seal.Record(tags, n)
		epoch, e := seal.Epoch(record)
		if e != api.OK {
			v.t.Fatal("Epoch", e)
		}
		list = append(list, epoch)
	}
	return list
}

// P19.3, P19.5, P19.7: whole rekeys of volumes of each size: a Move takes a Segment of sectors, as many as there are, in one change, and changes no read; behind the last one no record has the first epoch.
func TestMove(t *testing.T) {
	for _, sectors := range sizes {
		for _, segment := range []int{1, 3, 7, 8, 9, 16} {
			if sectors/segment > 129 {
				continue // it would be many alike
			}
			source := sample.Source(1000*sectors + segment)
			v := newVolume(t, sectors, segment, max(16, segment+10))
			for range min(sectors, 30) {
				v.fill(&source, source.Below(sectors))
			}
			v.refused("no rekey", v.s.Move(), api.ErrNone)
			v.begin()
			frontier, moves := 0, 0
			for ; frontier < sectors; moves++ {
				v.doMove()
				frontier = min(frontier+segment, sectors)
				if got := v.s.Root().Frontier; got != frontier {
					t.Fatalf("%d sectors by %d: frontier %d, not %d", sectors, segment, got, frontier)
				}
				if source.Below(5) == 0 {
					v.open()
				}
			}
			if moves != (sectors+segment-1)/segment {
				t.Errorf("%d sectors by %d: %d moves", sectors, segment, moves)
			}
			v.refused("the frontier is at the end", v.s.Move(), api.ErrNone)
			v.right("behind the last Move")
			for n, epoch := range v.epochsOnDisk() {
				if epoch != v.epochs[n] || epoch == 1 {
					t.Errorf("%d sectors by %d: sector %d lies under %d, not %d", sectors, segment, n, epoch, v.epochs[n])
				}
			}
			v.end()
			v.refused("the rekey is at its end", v.s.Move(), api.ErrNone)
			v.right("at its end")
		}
	}
}

// P19.3: all sectors of the greatest segment were written: its transaction fits the least journal.
func TestGreatestMove(t *testing.T) {
	source := sample.Source(1)
	v := newVolume(t, 300, 16, 26)
	for n := range 300 {
		v.fill(&source, n)
	}
	v.begin()
	for range 19 {
		v.doClean()
		v.doMove()
	}
	v.right("moved")

	// A segment whose sectors lie in three blocks of tags, below two nodes.
	v.end()
	v.h.Segment = 15
	v.open()
	v.begin()
	for v.root.Frontier < 120 {
		v.doMove()
	}
	v.h.Segment = 4
	v.open()
	v.doMove()
	v.h.Segment = 16
	v.open()
	v.doClean()
	if v.root.Frontier != 124 {
		t.Fatalf("frontier %d", v.root.Frontier)
	}
	v.doMove()
	if got := len(v.c.Dirty()); got != 16+3+2+1+1 || v.c.Most() != 23 {
		t.Errorf("%d blocks, at most %d", got, v.c.Most())
	}
	v.right("in three blocks of tags")
}

// P19.3: a Move of sectors that were never written changes the root alone; those among others stay so.
func TestMoveOfNeverWrittenSectors(t *testing.T) {
	source := sample.Source(2)
	v := newVolume(t, 30, 5, 20)
	v.fill(&source, 1, 3, 11, 29)
	v.begin()
	for i, want := range []int{5, 1, 4, 1, 1, 4} {
		v.doClean()
		v.doMove()
		if got := len(v.c.Dirty()); got != want {
			t.Errorf("Move %d: %d blocks, not %d", i, got, want)
		}
	}
	v.right("moved")
	want := make([]int, 30)
	want[1], want[3], want[11], want[29] = 2, 2, 2, 2
	if got := v.epochsOnDisk(); !slices.Equal(got, want) {
		t.Errorf("epochs %d", got)
	}
}

// P19.2, P19.3, P19.5: any calls, one behind the other: a Write goes under the keys of the frontier's side.
func TestAnyCalls(t *testing.T) {
	for run := range 20 {
		source := sample.Source(300 + run)
		sectors := 1 + source.Below(40)
		if run%5 == 0 {
			sectors += 120
		}
		segment := 1 + source.Below(8)
		v := newVolume(t, sectors, segment, segment+10+source.Below(10)+8)
		done := 0
		for range 120 {
			switch root := v.root; source.Below(14) {
			case 0:
				v.open()
			case 1:
				v.doFlush()
			case 2:
				v.doClean()
			case 3, 4, 5, 6:
				if !root.Rekeying {
					v.refused("no rekey", v.s.Move(), api.ErrNone)
					v.begin()
				} else if root.Frontier == sectors {
					v.refused("at the end", v.s.Move(), api.ErrNone)
					v.end()
					done++
				} else {
					v.doMove()
				}
			default:
				v.fill(&source, source.Below(sectors))
			}
			v.reads("any", source.Below(sectors))
		}
		v.right("any")
		for n, epoch := range v.epochsOnDisk() {
			if epoch != v.epochs[n] {
				t.Errorf("sector %d lies under %d, not %d", n, epoch, v.epochs[n])
			}
		}
		if sectors < 10 && done == 0 {
			t.Errorf("%d sectors by %d: no rekey came to its end", sectors, segment)
		}
	}
}

// P19.2, P19.3: a Write on each side of the frontier.
func TestWritesAtTheFrontier(t *testing.T) {
	source := sample.Source(3)
	v := newVolume(t, 20, 4, 20)
	v.begin()
	for frontier := 0; ; frontier += 4 {
		for n := range 20 {
			v.fill(&source, n)
			want := 1
			if n < frontier {
				want = 2
			}
			if got := v.epochsOnDisk()[n]; got != want {
				t.Errorf("frontier %d, sector %d: epoch %d", frontier, n, got)
			}
		}
		if frontier == 20 {
			break
		}
		v.doMove()
	}
	v.right("at the end")
	v.end()
	v.fill(&source, 0, 19)
	if got := v.epochsOnDisk(); !slices.Equal(got, slices.Repeat([]int{2}, 20)) {
		t.Errorf("epochs %d", got)
	}
}

// P19.3: what reading one of its sectors refuses, a Move refuses, whole; other sectors are no matter.
func TestMoveIsRefused(t *testing.T) {
	source := sample.Source(4)
	v := newVolume(t, 30, 6, 20)
	for n := range 30 {
		if n%5 != 4 {
			v.fill(&source, n)
		}
	}
	v.begin()
	v.doMove()
	v.doClean()
	look := func(block int, refused bool) {
		t.Helper()
		fresh := *v
		v := &fresh
		v.words, v.d, v.twin = v.words.fork(), v.d.Fork(), v.twin.Fork()
		v.open()
		right := bytes.Clone(v.blocks[block])
		b := bytes.Clone(right)
		b[source.Below(512)] ^= 1 << source.Below(8)
		v.tamper(block, b)
		if refused {
			v.refused("turned", v.s.Move(), api.ErrIntegrity)
			v.tamper(block, right)
		}
		v.doMove()
		v.tamper(block, v.blocks[block])
	}
	for n := range 30 { // the next Move is of 6 to 11
		if _, written := v.plain[n]; written {
			look(v.l.Data+n, n >= 6 && n < 12)
		}
	}
	for block := v.l.Tags; block < v.l.Data; block++ {
		look(block, block <= v.l.Tags+1)
	}
	look(v.l.Tree, true)
	look(v.l.Root, false)
}

// P19.3: what reading or committing refuses of a Move: the store is as it was.
func TestMoveIsCutOff(t *testing.T) {
	for stop := 0; ; stop++ {
		source := sample.Source(5)
		v := newVolume(t, 20, 4, 16)
		v.fill(&source, 0, 1, 3, 4)
		v.begin()
		v.stop(stop)
		e := v.s.Move()
		if e == api.OK {
			v.done("Move", e, v.move())
			if stop < 15 {
				t.Errorf("%d steps in all", stop)
			}
			break
		}
		if e != api.ErrIO || v.s.Root() != v.root || !slices.Equal(v.s.Ring(), v.words.ring) {
			t.Errorf("behind %d steps: %d, %+v", stop, e, v.s.Root())
		}
	}
	// A cache whose journal has no room for so many blocks.
	source := sample.Source(6)
	v := newVolume(t, 40, 16, 26)
	for n := range 40 {
		v.fill(&source, n)
	}
	v.begin()
	v.doClean()
	d := v.d.Fork()
	if e := journal.Init(d, v.l.Journal, 16); e != api.OK {
		t.Fatal(e)
	}
	c, _ := cache.Open(d, v.l.Journal, 16)
	s, e := New(c, v.h, rootKey, v.words.ring)
	if e != api.OK {
		t.Fatal(e)
	}
	before := d.Fork()
	if e := s.Move(); e != api.ErrLong || s.Root() != v.root || !sample.SameDisks(d, before) {
		t.Errorf("a short journal: %d, %+v", e, s.Root())
	}
	if b, e := s.Read(3); e != api.OK || !bytes.Equal(b, v.read(3)) {
		t.Errorf("a short journal: Read: %d", e)
	}
	if e := s.Write(3, sample.Bytes(512)); e != api.OK {
		t.Errorf("a short journal: Write: %d", e)
	}
}

// P19.3: the root, the ring and the blocks of extra are changed at once.
func TestChange(t *testing.T) {
	source := sample.Source(7)
	v := newVolume(t, 20, 4, 30)
	v.fill(&source, 2, 9)
	redos := func(blocks ...int) []api.Redo {
		var list []api.Redo
		for _, n := range blocks {
			list = append(list, api.Redo{Block: n, Bytes: source.Bytes(512)})
		}
		return list
	}
	v.doChange(false, ringOf(1), nil)
	v.doChange(false, ringOf(1), []api.Redo{})
	v.doChange(false, ringOf(1), redos(v.l.Keys))
	v.right("no rekey")
	v.doChange(true, ringOf(1, 2), redos(v.l.Slots+1, v.l.Keys, v.l.Slots, 1, 0))
	v.right("a rekey")
	v.doMove()
	v.right("a step")
	// The frontier falls to 0, whatever it was.
	v.doChange(true, ringOf(1, 2), nil)
	v.right("a rekey begins anew")
	v.doMove()
	v.doMove()
	v.doMove()
	v.right("steps")
	v.doChange(false, ringOf(2), redos(v.l.Keys))
	v.right("another epoch")
	v.doChange(true, ringOf(1<<32-2, 1<<32-1), nil)
	v.readsNot("an epoch that the ring has not", 2, api.ErrIntegrity)
	v.readsNot("an epoch that the ring has not", 9, api.ErrIntegrity)
	v.reads("never written", 3)
	v.refused("an epoch that the ring has not", v.s.Move(), api.ErrIntegrity)
	v.fill(&source, 2)
	v.reads("written anew", 2)
	v.doMove()
	// Keys of the same number that are others.
	other := ringOf(1<<32-2, 1<<32-1)
	other[1].Tag[4]++
	v.doChange(true, other, nil)
	v.readsNot("another key", 2, api.ErrIntegrity)
}

// P19.3: rings that may not be, or not so; whatever extra is.
func TestChangeOfWrongRings(t *testing.T) {
	source := sample.Source(8)
	v := newVolume(t, 20, 4, 20)
	v.fill(&source, 5)
	extras := [][]api.Redo{nil, {{Block: v.l.Keys, Bytes: make([]byte, 512)}}, {{Block: -1}}}
	for range 2 {
		for _, extra := range extras {
			for _, ring := range wrongRings() {
				v.refused("a wrong ring", v.s.Change(false, ring, extra), api.ErrArg)
				v.refused("a wrong ring", v.s.Change(true, ring, extra), api.ErrArg)
			}
			v.refused("two epochs, no rekey", v.s.Change(false, ringOf(1, 2), extra), api.ErrArg)
			v.refused("one epoch, a rekey", v.s.Change(true, ringOf(1), extra), api.ErrArg)
		}
		v.right("refused")
		v.begin()
		v.doMove()
	}
}

// P19.3: blocks of extra that may not be.
func TestChangeOfWrongBlocks(t *testing.T) {
	source := sample.Source(9)
	v := newVolume(t, 20, 4, 20)
	v.fill(&source, 5)
	v.doClean()
	b := source.Bytes(512)
	right := []api.Redo{{Block: v.l.Keys, Bytes: b}, {Block: v.l.Slots, Bytes: b}}
	look := func(what string, wrong ...api.Redo) {
		t.Helper()
		for place := range 3 {
			extra := slices.Insert(slices.Clone(right), place, wrong...)
			v.refused(what, v.s.Change(true, ringOf(1, 2), extra), api.ErrArg)
			v.refused(what, v.s.Change(false, ringOf(3), extra), api.ErrArg)
		}
		v.refused(what, v.s.Change(true, ringOf(1, 2), wrong), api.ErrArg)
	}
	for _, n := range append([]int{v.l.Blocks, v.l.Blocks + 1, 4095, 4096}, wild...) {
		look("no such block", api.Redo{Block: n, Bytes: b})
	}
	for n := v.l.Journal; n < v.l.Tree; n++ {
		look("a block of the journal", api.Redo{Block: n, Bytes: b})
	}
	for _, size := range []int{0, 1, 511, 513, 1024} {
		look("bytes of another length", api.Redo{Block: 1, Bytes: sample.Bytes(size)})
	}
	look("a block twice", api.Redo{Block: 1, Bytes: b}, api.Redo{Block: 1, Bytes: b})
	look("the root's block", api.Redo{Block: v.l.Root, Bytes: v.blocks[v.l.Root]})
	v.right("refused")
	v.doChange(true, ringOf(1, 2), right)
	v.right("the right ones")
}

// P19.3: more blocks than a transaction may have, and than the journal has room for.
func TestChangeOfManyBlocks(t *testing.T) {
	for _, x := range []struct{ journal, most, beyond int }{{20, 17, 63}, {67, 64, 63}, {256, 64, 63}} {
		v := newVolume(t, 100, 4, x.journal)
		v.doClean()
		redos := func(count int) []api.Redo {
			var list []api.Redo
			for n := range count {
				list = append(list, api.Redo{Block: v.l.Data + n, Bytes: sample.Bytes(512)})
			}
			return list
		}
		for count := x.most; count <= x.beyond; count++ { // one more is the root's
			v.refused("too many for the journal", v.s.Change(false, ringOf(1), redos(count)), api.ErrLong)
		}
		for _, count := range []int{64, 65, 90} {
			v.refused("too many", v.s.Change(false, ringOf(1), redos(count)), api.ErrArg)
		}
		v.doChange(false, ringOf(1), redos(x.most-1))
		v.doChange(false, ringOf(1), redos(x.most-1)) // the journal is written home ahead
		v.right("as many as may be")
	}
}

// P19.3: of a Change that is cut off nothing is kept, neither the ring nor the root.
func TestChangeIsCutOff(t *testing.T) {
	for stop := range 30 {
		source := sample.Source(10)
		v := newVolume(t, 20, 4, 16)
		v.fill(&source, 5, 6)
		v.stop(stop)
		e := v.s.Change(true, ringOf(1, 2), []api.Redo{{Block: v.l.Keys, Bytes: source.Bytes(512)}})
		if want := stop >= 9+5; want != (e == api.OK) {
			t.Errorf("behind %d steps: %d", stop, e)
		}
		if e != api.OK && (e != api.ErrIO || v.s.Root() != v.root || !slices.Equal(v.s.Ring(), v.words.ring)) {
			t.Errorf("behind %d steps: %d, %+v", stop, e, v.s.Root())
		}
	}
}

// A change: the Counter is one more, modulo 2^64.
func TestCounter(t *testing.T) {
	source := sample.Source(11)
	v := newVolume(t, 20, 4, 20)
	v.root.Counter = math.MaxUint64 - 2
	v.finish(map[int][]byte{})
	v.lay()
	if v.s.Root().Counter != math.MaxUint64-1 {
		t.Fatalf("%+v", v.s.Root())
	}
	v.fill(&source, 3)
	v.begin()
	if v.s.Root().Counter != 0 {
		t.Errorf("%+v", v.s.Root())
	}
	v.doMove()
	v.open()
	if v.s.Root().Counter != 1 {
		t.Errorf("%+v", v.s.Root())
	}
	v.right("round and round")
}
