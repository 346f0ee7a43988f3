package sector

import (
	"bytes"
	"maps"
	"slices"
	"testing"

	"casket/api"
	"casket/cache"
	"casket/disk"
	"casket/head"
	"casket/journal"
	"casket/sample"
	"casket/seal"
	"casket/tree"
)

// rootKey is the key of all roots of these tests.
var rootKey = [32]byte([]byte("the key of the root's own blocks"))

// headOf is a header of so many sectors, of which a step of a rekey takes some.
func headOf(sectors, segment, journal int) api.Head {
	return api.Head{Generation: 1, Sectors: sectors, Slots: 2, Journal: journal, Segment: segment, Params: api.Params{Time: 1, Memory: 8, Lanes: 1}, Name: [16]byte([]byte("sixteen letters."))}
}

// keysOf are an epoch's: the same in all tests.
func keysOf(epoch int) api.EpochKeys {
	source := sample.Source(7000 + epoch)
	return api.EpochKeys{Epoch: epoch, Data: [32]byte(source.Bytes(32)), Tag: [32]byte(source.Bytes(32))}
}

// ringOf is the keys of epochs.
func ringOf(epochs ...int) []api.EpochKeys {
	var ring []api.EpochKeys
	for _, epoch := range epochs {
		ring = append(ring, keysOf(epoch))
	}
	return ring
}

// words are what a store should be, as the chapter words it, by the layers below alone.
type words struct {
	h      api.Head
	l      api.Layout
	ring   []api.EpochKeys
	root   api.Root
	plain  map[int][]byte // what sectors have that were written
	epochs map[int]int    // under which they lie
	blocks map[int][]byte // what the blocks have from the root's on
}

// newWords are of sectors that were never written.
func newWords(t *testing.T, h api.Head) *words {
	t.Helper()
	l, e := head.Layout(h)
	if e != api.OK {
		t.Fatal("Layout", e)
	}
	x := &words{h: h, l: l, ring: ringOf(1), plain: map[int][]byte{}, epochs: map[int]int{}, blocks: map[int][]byte{}}
	for n := l.Tags; n < l.Data; n++ {
		x.blocks[n] = make([]byte, 512)
	}
	levels, root := x.tree()
	for i, node := range slices.Concat(levels...) {
		x.blocks[l.Tree+i] = node
	}
	x.root.Tree = root
	x.blocks[l.Root], _ = seal.RootBlock(rootKey, h, x.root)
	return x
}

// fork are other words that are the same. Blocks are never changed where they lie.
func (x *words) fork() *words {
	other := *x
	other.plain, other.epochs, other.blocks = maps.Clone(x.plain), maps.Clone(x.epochs), maps.Clone(x.blocks)
	return &other
}

// tree is that over the blocks of tags.
func (x *words) tree() ([][][]byte, [32]byte) {
	var leaves [][32]byte
	for n := x.l.Tags; n < x.l.Data; n++ {
		leaves = append(leaves, tree.Leaf(x.blocks[n]))
	}
	levels, root, _ := tree.Build(leaves)
	return levels, root
}

// read is what a sector should have.
func (x *words) read(n int) []byte {
	if b, written := x.plain[n]; written {
		return b
	}
	return make([]byte, 512)
}

// write is what Write should change.
func (x *words) write(n int, b []byte) map[int][]byte {
	k := x.ring[0]
	if x.root.Rekeying && n < x.root.Frontier {
		k = x.ring[1]
	}
	changed := map[int][]byte{}
	x.seal(changed, n, b, k)
	x.finish(changed)
	return changed
}

// move is what Move should change.
func (x *words) move() map[int][]byte {
	changed := map[int][]byte{}
	for range x.h.Segment {
		if n := x.root.Frontier; n < x.h.Sectors {
			if b, written := x.plain[n]; written {
				x.seal(changed, n, b, x.ring[1])
			}
			x.root.Frontier++
		}
	}
	x.finish(changed)
	return changed
}

// change is what Change should change.
func (x *words) change(rekeying bool, ring []api.EpochKeys, extra []api.Redo) map[int][]byte {
	changed := map[int][]byte{}
	for _, redo := range extra {
		x.set(changed, redo.Block, bytes.Clone(redo.Bytes))
	}
	x.ring = slices.Clone(ring)
	x.root.Rekeying, x.root.Frontier = rekeying, 0
	x.finish(changed)
	return changed
}

// set gives a block other bytes.
func (x *words) set(changed map[int][]byte, n int, b []byte) {
	changed[n], x.blocks[n] = b, b
}

// seal changes a sector, its record and the nodes above that.
func (x *words) seal(changed map[int][]byte, n int, b []byte, k api.EpochKeys) {
	sealed, record, _ := seal.Seal(k, n, b)
	x.plain[n], x.epochs[n] = bytes.Clone(b), k.Epoch
	x.set(changed, x.l.Data+n, sealed)
	x.record(changed, n, record)
}

// record changes a sector's record and the nodes above it.
func (x *words) record(changed map[int][]byte, n int, record [64]byte) {
	tags := bytes.Clone(x.blocks[x.l.Tags+n/8])
	copy(tags[64*(n%8):], record[:])
	x.set(changed, x.l.Tags+n/8, tags)
	levels, root := x.tree()
	x.root.Tree = root
	x.set(changed, x.l.Tree+n/128, levels[0][n/128])
	if len(levels) == 2 {
		x.set(changed, x.l.Tree+len(levels[0]), levels[1][0])
	}
}

// finish changes the root.
func (x *words) finish(changed map[int][]byte) {
	x.root.Counter++
	b, _ := seal.RootBlock(rootKey, x.h, x.root)
	x.set(changed, x.l.Root, b)
}

// volume is a store, what it should be, and a twin of its disk on which just that is committed: the disks must be the same in all that can be told of them.
type volume struct {
	t *testing.T
	*words
	d     *disk.Disk
	c     *cache.Cache
	s     *Store
	twin  *disk.Disk
	twinC *cache.Cache
}

// newVolume has sectors that were never written.
func newVolume(t *testing.T, sectors, segment, journal int) *volume {
	t.Helper()
	v := &volume{t: t, words: newWords(t, headOf(sectors, segment, journal))}
	v.lay()
	return v
}

// lay makes disks that have what the words say, with an empty journal, and opens them.
func (v *volume) lay() {
	v.t.Helper()
	v.d, _ = disk.New(v.l.Blocks)
	for n, b := range v.blocks {
		v.d.Tamper(n, b)
	}
	if e := journal.Init(v.d, v.l.Journal, v.h.Journal); e != api.OK {
		v.t.Fatal("Init", e)
	}
	v.twin = v.d.Fork()
	v.open()
}

// openCache is that of a disk of the volume's layout.
func (v *volume) openCache(d *disk.Disk) *cache.Cache {
	v.t.Helper()
	c, e := cache.Open(d, v.l.Journal, v.h.Journal)
	if e != api.OK {
		v.t.Fatal("cache.Open", e)
	}
	return c
}

// open opens both disks anew.
func (v *volume) open() {
	v.t.Helper()
	v.c, v.twinC = v.openCache(v.d), v.openCache(v.twin)
	s, e := New(v.c, v.h, rootKey, v.ring)
	if e != api.OK {
		v.t.Fatal("New", e)
	}
	v.s = s
	v.same("New")
}

// same asks that the disks and the caches are the same, and that the store's root and ring are the words'.
func (v *volume) same(what string) {
	v.t.Helper()
	if !sample.SameDisks(v.d, v.twin) || !slices.Equal(v.c.Dirty(), v.twinC.Dirty()) || v.c.Used() != v.twinC.Used() {
		v.t.Fatalf("%s: another disk; dirty %d, not %d; used %d, not %d", what, v.c.Dirty(), v.twinC.Dirty(), v.c.Used(), v.twinC.Used())
	}
	if got := v.s.Root(); got != v.root {
		v.t.Fatalf("%s: root %+v, not %+v", what, got, v.root)
	}
	if got := v.s.Ring(); !slices.Equal(got, v.words.ring) {
		v.t.Fatalf("%s: ring %v, not %v", what, got, v.words.ring)
	}
}

// done asks that a call was OK, and changed just these blocks, in one transaction, by rising numbers.
func (v *volume) done(what string, e api.Errno, changed map[int][]byte) {
	v.t.Helper()
	if e != api.OK {
		v.t.Fatalf("%s: %d", what, e)
	}
	var redos []api.Redo
	for _, n := range slices.Sorted(maps.Keys(changed)) {
		redos = append(redos, api.Redo{Block: n, Bytes: changed[n]})
	}
	if e := v.twinC.Commit(redos); e != api.OK {
		v.t.Fatalf("%s: Commit of the twin: %d", what, e)
	}
	v.same(what)
}

// refused asks that a call was refused, and changed nothing.
func (v *volume) refused(what string, got, want api.Errno) {
	v.t.Helper()
	if got != want {
		v.t.Errorf("%s: %d, not %d", what, got, want)
	}
	v.same(what)
}

func (v *volume) doWrite(n int, b []byte) {
	v.t.Helper()
	v.done("Write", v.s.Write(n, b), v.write(n, b))
}

func (v *volume) doMove() {
	v.t.Helper()
	v.done("Move", v.s.Move(), v.move())
}

func (v *volume) doChange(rekeying bool, ring []api.EpochKeys, extra []api.Redo) {
	v.t.Helper()
	v.done("Change", v.s.Change(rekeying, ring, extra), v.change(rekeying, ring, extra))
}

// begin begins a rekey to the next epoch, end ends it.
func (v *volume) begin() {
	v.t.Helper()
	first := v.words.ring[0].Epoch
	v.doChange(true, ringOf(first, first+1), nil)
}

func (v *volume) end() {
	v.t.Helper()
	v.doChange(false, v.words.ring[1:], nil)
}

func (v *volume) doFlush() {
	v.t.Helper()
	if e, f := v.s.Flush(), v.twinC.Flush(); e != api.OK || f != api.OK {
		v.t.Fatal("Flush", e, f)
	}
	v.same("Flush")
}

func (v *volume) doClean() {
	v.t.Helper()
	if e, f := v.s.Clean(), v.twinC.Clean(); e != api.OK || f != api.OK {
		v.t.Fatal("Clean", e, f)
	}
	v.same("Clean")
}

// fill writes sectors, others each time.
func (v *volume) fill(source *sample.Source, sectors ...int) {
	v.t.Helper()
	for _, n := range sectors {
		v.doWrite(n, source.Bytes(512))
	}
}

// tamper writes a block on both disks, as somebody else does.
func (v *volume) tamper(n int, b []byte) {
	v.d.Tamper(n, b)
	v.twin.Tamper(n, b)
}

// stop lets the power of both disks go.
func (v *volume) stop(n int) {
	v.d.Stop(n)
	v.twin.Stop(n)
}

// crash crashes both disks.
func (v *volume) crash(keep []api.Kept) {
	v.t.Helper()
	if e, f := v.d.Crash(keep), v.twin.Crash(keep); e != api.OK || f != api.OK {
		v.t.Fatal("Crash", e, f)
	}
}

// reads asks what a sector reads.
func (v *volume) reads(what string, n int) {
	v.t.Helper()
	if b, e := v.s.Read(n); e != api.OK || !bytes.Equal(b, v.read(n)) {
		v.t.Errorf("%s: sector %d: %d, or other bytes", what, n, e)
	}
}

// readsNot asks that a sector's reading is refused.
func (v *volume) readsNot(what string, n int, want api.Errno) {
	v.t.Helper()
	if b, e := v.s.Read(n); e != want || len(b) != 0 {
		v.t.Errorf("%s: sector %d: %d, not %d", what, n, e, want)
	}
}

// right asks that all sectors read as they should, that nothing is changed by that, and that all blocks are the words'.
func (v *volume) right(what string) {
	v.t.Helper()
	for n := range v.h.Sectors {
		v.reads(what, n)
	}
	for n, want := range v.blocks {
		if b, e := v.c.Read(n); e != api.OK || !bytes.Equal(b, want) {
			v.t.Errorf("%s: block %d is another one, %d", what, n, e)
		}
	}
	v.same(what)
}
