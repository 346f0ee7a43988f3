package rekey

import (
	"bytes"
	"slices"
	"testing"

	"casket/api"
	"casket/cache"
	"casket/disk"
	"casket/head"
	"casket/journal"
	"casket/keyring"
	"casket/merkle"
	"casket/plan"
	"casket/sample"
	"casket/seal"
	"casket/sector"
	"casket/wrap"
)

// masterKey is the one of all these tests.
var masterKey = [32]byte([]byte("a master key of thirty-two bytes"))

// headOf is a header of so many sectors, of which a step of a rekey takes some.
func headOf(sectors, segment, journal int) api.Head {
	return api.Head{Generation: 1, Sectors: sectors, Slots: 2, Journal: journal, Segment: segment, Params: api.Params{Time: 1, Memory: 8, Lanes: 1}, Name: [16]byte([]byte("sixteen letters."))}
}

// freshOf are what an epoch's keys are made of in these tests.
func freshOf(epoch int) [64]byte {
	source := sample.Source(5000 + epoch)
	return [64]byte(source.Bytes(64))
}

// keysOf are made of fresh bytes, as the chapter says.
func keysOf(epoch int, fresh [64]byte) api.EpochKeys {
	k := api.EpochKeys{Epoch: epoch}
	copy(k.Data[:], fresh[:32])
	copy(k.Tag[:], fresh[32:])
	return k
}

// side is a disk with a store over it.
type side struct {
	d *disk.Disk
	c *cache.Cache
	s *sector.Store
}

// volume is a store on which this package's calls are made, and a twin on which what the chapter words is done by the layers below: both must be the same in all that can be told of them.
type volume struct {
	t *testing.T
	h api.Head
	l api.Layout
	side
	twin  side
	plain map[int][]byte // what sectors have that were written
}

// newVolume has sectors that were never written, under these keys.
func newVolume(t *testing.T, h api.Head, k api.EpochKeys) *volume {
	t.Helper()
	l, e := head.Layout(h)
	if e != api.OK {
		t.Fatal("Layout", e)
	}
	v := &volume{t: t, h: h, l: l, plain: map[int][]byte{}}
	v.d, _ = disk.New(l.Blocks)
	levels, root := merkle.Fresh(l)
	for i, node := range slices.Concat(levels...) {
		v.d.Tamper(l.Tree+i, node)
	}
	b, _ := seal.RootBlock(wrap.Root(masterKey), h, api.Root{Tree: root})
	v.d.Tamper(l.Root, b)
	keys, e := keyring.Keys(h, masterKey, []api.EpochKeys{k})
	if e != api.OK {
		t.Fatal("Keys", e)
	}
	v.d.Tamper(keys.Block, keys.Bytes)
	if e := journal.Init(v.d, l.Journal, h.Journal); e != api.OK {
		t.Fatal("Init", e)
	}
	v.twin.d = v.d.Fork()
	v.open()
	return v
}

// fork is another one that goes on by itself, opened anew.
func (v *volume) fork() *volume {
	v.t.Helper()
	other := &volume{t: v.t, h: v.h, l: v.l, plain: map[int][]byte{}}
	for n, b := range v.plain {
		other.plain[n] = b
	}
	other.d, other.twin.d = v.d.Fork(), v.twin.d.Fork()
	other.open()
	return other
}

// openSide is a store of what a disk has, with the ring of its block of keys.
func (v *volume) openSide(d *disk.Disk) side {
	v.t.Helper()
	c, e := cache.Open(d, v.l.Journal, v.h.Journal)
	if e != api.OK {
		v.t.Fatal("cache.Open", e)
	}
	ring, e := keyring.Epochs(merkle.NewStage(c), v.h, masterKey)
	if e != api.OK {
		v.t.Fatal("Epochs", e)
	}
	s, e := sector.New(c, v.h, wrap.Root(masterKey), ring)
	if e != api.OK {
		v.t.Fatal("New", e)
	}
	return side{d: d, c: c, s: s}
}

// open opens both disks anew.
func (v *volume) open() {
	v.t.Helper()
	v.side, v.twin = v.openSide(v.d), v.openSide(v.twin.d)
	v.same("opened")
}

// same asks that both sides are the same.
func (v *volume) same(what string) {
	v.t.Helper()
	if !sample.SameDisks(v.d, v.twin.d) {
		v.t.Fatalf("%s: another disk", what)
	}
	if got, want := v.c.Dirty(), v.twin.c.Dirty(); !slices.Equal(got, want) || v.c.Used() != v.twin.c.Used() {
		v.t.Fatalf("%s: dirty %d, not %d; used %d, not %d", what, got, want, v.c.Used(), v.twin.c.Used())
	}
	if got, want := v.s.Root(), v.twin.s.Root(); got != want {
		v.t.Fatalf("%s: root %+v, not %+v", what, got, want)
	}
	if got, want := v.s.Ring(), v.twin.s.Ring(); !slices.Equal(got, want) {
		v.t.Fatalf("%s: ring %v, not %v", what, got, want)
	}
}

// stop lets the power of both disks go.
func (v *volume) stop(n int) {
	v.d.Stop(n)
	v.twin.d.Stop(n)
}

// tamper writes a block on both disks, as somebody else does.
func (v *volume) tamper(n int, b []byte) {
	v.d.Tamper(n, b)
	v.twin.d.Tamper(n, b)
}

// crash crashes both disks, and opens them anew.
func (v *volume) crash(keep []api.Kept) {
	v.t.Helper()
	if e, f := v.d.Crash(keep), v.twin.d.Crash(keep); e != api.OK || f != api.OK {
		v.t.Fatal("Crash", e, f)
	}
	v.open()
}

// both does the same to both stores, by their own calls; it must be done.
func (v *volume) both(what string, call func(s *sector.Store) api.Errno) {
	v.t.Helper()
	if e, f := call(v.s), call(v.twin.s); e != api.OK || f != api.OK {
		v.t.Fatal(what, e, f)
	}
	v.same(what)
}

func (v *volume) write(n int, b []byte) {
	v.t.Helper()
	v.both("Write", func(s *sector.Store) api.Errno { return s.Write(n, b) })
	v.plain[n] = bytes.Clone(b)
}

func (v *volume) flush() {
	v.t.Helper()
	v.both("Flush", func(s *sector.Store) api.Errno { return s.Flush() })
}

func (v *volume) clean() {
	v.t.Helper()
	v.both("Clean", func(s *sector.Store) api.Errno { return s.Clean() })
}

// fill writes sectors, others each time.
func (v *volume) fill(source *sample.Source, sectors ...int) {
	v.t.Helper()
	for _, n := range sectors {
		v.write(n, source.Bytes(512))
	}
}

// wordsOfStart are what Start should do.
func (v *volume) wordsOfStart(h api.Head, fresh [64]byte) api.Errno {
	s := v.twin.s
	if s.Root().Rekeying {
		return api.ErrBusy
	}
	now := s.Ring()[0]
	if now.Epoch == 1<<32-1 {
		return api.ErrFull
	}
	ring := []api.EpochKeys{now, keysOf(now.Epoch+1, fresh)}
	keys, e := keyring.Keys(h, masterKey, ring)
	if e != api.OK {
		return e
	}
	return s.Change(true, ring, []api.Redo{keys})
}

// wordsOfStep are what Step should do.
func (v *volume) wordsOfStep(h api.Head) (bool, api.Errno) {
	s := v.twin.s
	if !s.Root().Rekeying {
		return false, api.ErrIdle
	}
	if s.Root().Frontier < h.Sectors {
		if e := s.Move(); e != api.OK {
			return false, e
		}
	}
	if s.Root().Frontier != h.Sectors {
		return false, api.OK
	}
	ring := []api.EpochKeys{s.Ring()[1]}
	keys, e := keyring.Keys(h, masterKey, ring)
	if e != api.OK {
		return false, e
	}
	if e := s.Change(false, ring, []api.Redo{keys}); e != api.OK {
		return false, e
	}
	return true, s.Clean()
}

// start asks that Start does as worded, with whatever header it is called.
func (v *volume) start(what string, h api.Head, fresh [64]byte) api.Errno {
	v.t.Helper()
	got, want := Start(v.s, h, masterKey, fresh), v.wordsOfStart(h, fresh)
	if got != want {
		v.t.Fatalf("%s: Start: %d, not %d", what, got, want)
	}
	v.same(what)
	return got
}

// step asks that Step does as worded.
func (v *volume) step(what string, h api.Head) (bool, api.Errno) {
	v.t.Helper()
	got, e := Step(v.s, h, masterKey)
	want, f := v.wordsOfStep(h)
	if got != want || e != f {
		v.t.Fatalf("%s: Step: %v, %d, not %v, %d", what, got, e, want, f)
	}
	v.same(what)
	return got, e
}

// begin begins a rekey to the next epoch.
func (v *volume) begin() {
	v.t.Helper()
	if e := v.start("begin", v.h, freshOf(v.s.Ring()[0].Epoch+1)); e != api.OK {
		v.t.Fatal("Start", e)
	}
}

// goOn takes a step that must not be refused.
func (v *volume) goOn() bool {
	v.t.Helper()
	done, e := v.step("on", v.h)
	if e != api.OK {
		v.t.Fatal("Step", e)
	}
	return done
}

// left is how many steps there are, which must be as plan says.
func (v *volume) left() int {
	v.t.Helper()
	got, e := Left(v.s, v.h)
	want, f := plan.Steps(v.h, v.s.Root())
	if got != want || e != api.OK || f != api.OK {
		v.t.Fatalf("Left: %d, %d, not %d", got, e, want)
	}
	return got
}

// reads asks that all sectors read as they should.
func (v *volume) reads(what string) {
	v.t.Helper()
	for n := range v.h.Sectors {
		want := v.plain[n]
		if want == nil {
			want = make([]byte, 512)
		}
		if b, e := v.s.Read(n); e != api.OK || !bytes.Equal(b, want) {
			v.t.Fatalf("%s: sector %d: %d, or other bytes", what, n, e)
		}
	}
}

// keyBlock asks that the block of keys has these epochs' keys.
func (v *volume) keyBlock(what string, want ...api.EpochKeys) {
	v.t.Helper()
	if ring, e := keyring.Epochs(merkle.NewStage(v.c), v.h, masterKey); e != api.OK || !slices.Equal(ring, want) {
		v.t.Errorf("%s: the block of keys: %v, %d, not %v", what, ring, e, want)
	}
	if got := v.s.Ring(); !slices.Equal(got, want) {
		v.t.Errorf("%s: ring %v, not %v", what, got, want)
	}
}
