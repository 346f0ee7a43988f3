package merkle

import (
	"bytes"
	"testing"

	"casket/api"
	"casket/cache"
	"casket/disk"
	"casket/sample"
)

// pair is a stage beside what the chapter words: staged blocks, and a cache on a disk of its own.
type pair struct {
	t      *testing.T
	v      *volume
	twin   *disk.Disk
	c      *cache.Cache
	staged map[int][]byte
}

func newPair(t *testing.T, sectors int) *pair {
	t.Helper()
	v := newVolume(t, sectors)
	p := &pair{t: t, v: v, twin: v.d.Fork(), staged: map[int][]byte{}}
	p.open()
	return p
}

// open opens both anew: nothing is staged.
func (p *pair) open() {
	p.t.Helper()
	p.v.open()
	c, e := cache.Open(p.twin, p.v.l.Journal, journalBlocks)
	if e != api.OK {
		p.t.Fatal("Open", e)
	}
	p.c = c
	p.staged = map[int][]byte{}
	p.same("Open")
}

// same holds all that can be told of both against each other.
func (p *pair) same(what string) {
	p.t.Helper()
	if !sample.SameDisks(p.v.d, p.twin) {
		p.t.Errorf("%s: other disks", what)
	}
	if p.v.s.Len() != len(p.staged) {
		p.t.Errorf("%s: Len %d, not %d", what, p.v.s.Len(), len(p.staged))
	}
	numbers := append([]int{p.twin.Len(), p.twin.Len() + 1}, wild...)
	for n := range p.twin.Len() {
		numbers = append(numbers, n)
	}
	for _, n := range numbers {
		got, e := p.v.s.Read(n)
		want, f := p.c.Read(n)
		if b, is := p.staged[n]; is {
			want, f = b, api.OK
		}
		if e != f || !bytes.Equal(got, want) {
			p.t.Errorf("%s: Read(%d): %d, not %d, or other bytes", what, n, e, f)
		}
	}
}

func (p *pair) write(n int, b []byte) {
	p.t.Helper()
	want := api.ErrSize
	if len(b) == 512 {
		want = api.OK
		p.staged[n] = bytes.Clone(b)
	}
	if e := p.v.s.Write(n, b); e != want {
		p.t.Errorf("Write(%d) of %d bytes: %d, not %d", n, len(b), e, want)
	}
}

func (p *pair) commit(what string, want api.Errno) {
	p.t.Helper()
	e, f := p.v.s.Commit(), api.OK
	if len(p.staged) > 0 {
		f = p.c.Commit(redosOf(p.staged))
	}
	if f == api.OK {
		p.staged = map[int][]byte{}
	}
	if e != want || f != want {
		p.t.Errorf("Commit, %s: %d, in words %d, not %d", what, e, f, want)
	}
	p.same("Commit, " + what)
}

func (p *pair) drop() {
	p.t.Helper()
	p.v.s.Drop()
	p.staged = map[int][]byte{}
	p.same("Drop")
}

func (p *pair) stop(n int) {
	p.v.d.Stop(n)
	p.twin.Stop(n)
}

func (p *pair) crash(keep []api.Kept) {
	p.t.Helper()
	if e, f := p.v.d.Crash(keep), p.twin.Crash(keep); e != api.OK || f != api.OK {
		p.t.Fatal("Crash", e, f)
	}
}

// P17.1: a stage has no blocks at first, and two stages of a cache share none.
func TestNewStage(t *testing.T) {
	p := newPair(t, 20)
	if p.v.s.Len() != 0 {
		t.Errorf("%d are staged at first", p.v.s.Len())
	}
	other := NewStage(p.v.s.cache)
	n, b := p.v.l.Data, sample.Bytes(512)
	p.write(n, b)
	if got, _ := other.Read(n); other.Len() != 0 || bytes.Equal(got, b) {
		t.Error("one stage's block is the other's")
	}
	p.commit("one", api.OK)
	if got, e := other.Read(n); e != api.OK || !bytes.Equal(got, b) {
		t.Errorf("what was committed is not read by the other one: %d", e)
	}
}

// P17.1: a staged block reads as it was staged last; the others as the cache has them.
func TestWriteAndRead(t *testing.T) {
	source := sample.Source(1)
	p := newPair(t, 100)
	n := p.v.l.Data
	p.write(n, source.Bytes(512))
	p.same("one")
	p.write(n, source.Bytes(512))
	p.same("one again")
	p.write(n+1, source.Bytes(512))
	p.write(0, source.Bytes(512))
	p.same("three")
	for _, size := range []int{0, 1, 511, 513, 1024} {
		p.write(n, source.Bytes(size))
		p.write(n+7, source.Bytes(size))
		p.write(-1, source.Bytes(size))
	}
	p.write(n, nil)
	p.same("of another length")
	p.commit("three", api.OK)
	p.write(n, source.Bytes(512))
	p.same("over a dirty one")
	p.drop()
}

// P17.1: blocks that there are not are staged like others, and refused when they are committed.
func TestWriteOfNoBlock(t *testing.T) {
	source := sample.Source(2)
	p := newPair(t, 100)
	for _, n := range append([]int{p.twin.Len(), p.v.l.Journal, p.v.l.Journal + journalBlocks - 1}, wild...) {
		p.write(n, source.Bytes(512))
		p.same("no such block")
		p.commit("no such block", api.ErrArg)
		p.write(p.v.l.Data, source.Bytes(512))
		p.commit("another one beside it", api.ErrArg)
		p.drop()
		p.commit("behind Drop", api.OK)
		p.write(p.v.l.Data, source.Bytes(512))
		p.commit("a right one", api.OK)
	}
}

// P17.1: as many as a transaction may have, and more: they stay staged.
func TestCommitOfMany(t *testing.T) {
	source := sample.Source(3)
	for count := 1; count <= 66; count++ {
		p := newPair(t, 100)
		for i := range count {
			// Falling numbers: Commit brings them in order.
			p.write(p.v.l.Data+99-i, source.Bytes(512))
		}
		want := api.OK
		if count > 64 {
			want = api.ErrArg
		} else if count > journalBlocks-3 {
			want = api.ErrLong
		}
		p.commit("many", want)
		if want != api.OK && p.v.s.Len() != count {
			t.Errorf("%d of %d stay staged", p.v.s.Len(), count)
		}
	}
}

// P17.1: all is one transaction: it uses a plan, a block for each, a seal, in the order of the blocks' numbers.
func TestCommitIsOneTransaction(t *testing.T) {
	p := newPair(t, 100)
	p.write(p.v.l.Data, sample.Bytes(512))
	p.commit("one", api.OK)
	used := p.v.s.cache.Used()
	for _, n := range []int{p.v.l.Data + 9, 1, p.v.l.Tags, p.v.l.Data + 2, 0} {
		p.write(n, sample.Bytes(512))
	}
	p.commit("five", api.OK)
	if got := p.v.s.cache.Used(); got != used+7 {
		t.Errorf("used %d, then %d", used, got)
	}
}

// P17.1: nothing is written where nothing is staged, whatever the disk says.
func TestCommitOfNone(t *testing.T) {
	p := newPair(t, 100)
	before := p.v.d.Fork()
	p.commit("none", api.OK)
	if !sample.SameDisks(p.v.d, before) {
		t.Error("something was written")
	}
	p.stop(0)
	p.commit("none, off", api.OK)
	p.write(p.v.l.Data, sample.Bytes(512))
	p.commit("one, off", api.ErrIO)
	p.crash(nil)
	p.commit("one, of no more use", api.ErrIO)
	p.drop()
	p.commit("none, of no more use", api.OK)
}

// P17.1: the power goes in each step of a Commit: all stay staged, and are read.
func TestCommitIsCutOff(t *testing.T) {
	for stop := 0; ; stop++ {
		source := sample.Source(4)
		p := newPair(t, 100)
		for range 3 {
			p.write(p.v.l.Data+source.Below(100), source.Bytes(512))
		}
		p.commit("at first", api.OK)
		for n := range 14 {
			p.write(p.v.l.Data+5*n, source.Bytes(512))
		}
		p.stop(stop)
		want := api.ErrIO
		if stop >= 24 {
			want = api.OK
		}
		p.commit("cut off", want)
		if want == api.OK {
			break
		}
		p.crash(nil)
		p.same("a crash")
		p.commit("again", api.ErrIO)
		p.open()
	}
}

// P17.1: any calls, one behind the other.
func TestAnyCalls(t *testing.T) {
	for run := range 12 {
		source := sample.Source(100 + run)
		p := newPair(t, 20)
		numbers := []int{0, 1, p.v.l.Keys, p.v.l.Root, p.v.l.Tags, p.v.l.Data, p.v.l.Data + 3, p.v.l.Data + 19}
		for range 150 {
			switch source.Below(12) {
			case 0:
				p.drop()
			case 1, 2, 3:
				want := api.OK
				if _, wrong := p.staged[-1]; wrong {
					want = api.ErrArg
				}
				p.commit("any", want)
			case 4:
				if source.Below(4) == 0 {
					p.write(-1, source.Bytes(512))
				}
			case 5:
				p.write(numbers[source.Below(len(numbers))], source.Bytes(source.Below(600)))
			case 6:
				p.open()
			default:
				p.write(numbers[source.Below(len(numbers))], source.Bytes(512))
			}
			p.same("any")
		}
	}
}

// P17.1, P17.4: the power goes in each step of changes and commits, whatever lasts: the tree is right by the root ahead of a commit that was cut off, or by the one behind it.
func TestTreeBehindCrashes(t *testing.T) {
	source := sample.Source(5)
	for _, sectors := range []int{20, 300} {
		stop := 0
		for ; ; stop++ {
			v := newVolume(t, sectors)
			v.d.Stop(stop)
			states := []volume{*v.copied()}
			cut := false
			for step := 0; step < 6 && !cut; step++ {
				if cut = v.d.Off(); cut { // then a Change is refused, which is another test's matter
					break
				}
				v.change(step*7%len(v.tags), source.Bytes(512))
				if step%2 == 1 {
					v.change((step*7+1)%len(v.tags), source.Bytes(512))
				}
				states = append(states, *v.copied())
				cut = v.s.Commit() != api.OK
			}
			for _, all := range []bool{false, true} {
				d := v.d.Fork()
				var keep []api.Kept
				if all {
					keep = d.Unsure()
				}
				d.Crash(keep)
				isOneOf(t, d, states)
			}
			if !cut {
				break
			}
		}
		if stop < 40 {
			t.Errorf("%d sectors: %d steps in all", sectors, stop)
		}
	}
}

// copied has the blocks of tags and the root as they are now.
func (v *volume) copied() *volume {
	other := *v
	other.tags = append([][]byte(nil), v.tags...)
	return &other
}

// isOneOf asks that what a disk has is right by the root of just one of some states, all of it.
func isOneOf(t *testing.T, d *disk.Disk, states []volume) {
	t.Helper()
	found := 0
	for _, state := range states {
		state.d = d
		state.open()
		if _, e := Check(state.s, state.l, 0, state.root); e == api.OK {
			state.right("behind a crash")
			found++
		}
	}
	if found != 1 {
		t.Errorf("right by %d roots", found)
	}
}
