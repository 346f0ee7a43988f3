package merkle

import (
	"bytes"
	"crypto/sha256"
	"encoding/binary"
	"maps"
	"math"
	"slices"
	"testing"

	"casket/api"
	"casket/cache"
	"casket/disk"
	"casket/head"
	"casket/journal"
	"casket/sample"
)

// wild are numbers that no block has, and no block of tags.
var wild = []int{math.MinInt, math.MinInt + 1, math.MinInt32, -1 << 32, -1<<32 + 5, -17, -16, -1, 4096, 1 << 16, 1<<31 - 1, 1 << 32, 1<<32 + 5, math.MaxInt - 15, math.MaxInt}

// sizes are of sectors, at the edges of blocks of tags, nodes and levels, and between them.
var sizes = []int{1, 2, 7, 8, 9, 100, 120, 127, 128, 129, 136, 137, 256, 257, 300, 1000, 1016, 1017, 1023, 1024}

// journalBlocks is how many the volumes of these tests have.
const journalBlocks = 20

// layoutOf is that of a volume of so many sectors.
func layoutOf(t *testing.T, sectors int) api.Layout {
	t.Helper()
	h := api.Head{Generation: 1, Sectors: sectors, Slots: 2, Journal: journalBlocks, Segment: 1, Params: api.Params{Time: 1, Memory: 8, Lanes: 1}}
	l, e := head.Layout(h)
	if e != api.OK {
		t.Fatal(e)
	}
	return l
}

// summed is the digest of texts, as if they were one.
func summed(texts ...[]byte) [32]byte {
	return sha256.Sum256(slices.Concat(texts...))
}

// wordedTree is the nodes of each level and the root, as the chapters 16 and 17 word them.
func wordedTree(tags [][]byte) ([][][]byte, [32]byte) {
	var children [][32]byte
	for _, b := range tags {
		children = append(children, summed([]byte{0}, b))
	}
	var levels [][][]byte
	for len(levels) == 0 || len(children) > 1 {
		var nodes [][]byte
		for list := range slices.Chunk(children, 16) {
			node := make([]byte, 512)
			for place, digest := range list {
				copy(node[32*place:], digest[:])
			}
			nodes = append(nodes, node)
		}
		children = nil
		for _, node := range nodes {
			children = append(children, summed([]byte{1, byte(len(levels))}, node))
		}
		levels = append(levels, nodes)
	}
	return levels, summed([]byte{2}, binary.LittleEndian.AppendUint32(nil, uint32(len(tags))), children[0][:])
}

// wordedPath is which blocks the nodes above the block of tags i are.
func wordedPath(l api.Layout, i int) []int {
	switch len(l.Levels) {
	case 1:
		return []int{l.Tree}
	case 2:
		return []int{l.Tree + i/16, l.Tree + l.Levels[0]}
	}
	panic("no header has such a layout")
}

// volume is a disk with a tree on it, below it the blocks of tags, and a stage over it.
type volume struct {
	t    *testing.T
	l    api.Layout
	d    *disk.Disk
	s    *Stage
	tags [][]byte // what the blocks of tags should have
	root [32]byte // what should follow from them
}

// newVolume has something in each block of tags, and the tree that follows from it.
func newVolume(t *testing.T, sectors int) *volume {
	t.Helper()
	source := sample.Source(sectors)
	v := &volume{t: t, l: layoutOf(t, sectors)}
	v.d, _ = disk.New(v.l.Blocks)
	for range v.l.Data - v.l.Tags {
		v.tags = append(v.tags, source.Bytes(512))
	}
	levels, root := wordedTree(v.tags)
	v.root = root
	for i, b := range append(slices.Concat(levels...), v.tags...) {
		v.d.Write(v.l.Tree+i, b)
	}
	if e := journal.Init(v.d, v.l.Journal, journalBlocks); e != api.OK {
		t.Fatal(e)
	}
	v.open()
	return v
}

// open is another stage, over a cache that is opened anew.
func (v *volume) open() {
	v.t.Helper()
	c, e := cache.Open(v.d, v.l.Journal, journalBlocks)
	if e != api.OK {
		v.t.Fatal("Open", e)
	}
	v.s = NewStage(c)
}

// change changes a block of tags, and holds the root against the words.
func (v *volume) change(i int, b []byte) {
	v.t.Helper()
	got, e := Change(v.s, v.l, i, b, v.root)
	v.tags[i] = bytes.Clone(b)
	_, v.root = wordedTree(v.tags)
	if e != api.OK || got != v.root {
		v.t.Errorf("Change of %d: %x, %d, not %x", i, got, e, v.root)
	}
}

// right asks that all blocks of tags are what they should be, by the root.
func (v *volume) right(what string) {
	v.t.Helper()
	levels, _ := wordedTree(v.tags)
	for i, want := range v.tags {
		if b, e := Check(v.s, v.l, i, v.root); e != api.OK || !bytes.Equal(b, want) {
			v.t.Errorf("%s: Check of %d: %d", what, i, e)
		}
		path, e := Path(v.s, v.l, i)
		if e != api.OK || len(path) != len(levels) {
			v.t.Fatalf("%s: Path of %d: %d nodes, %d", what, i, len(path), e)
		}
		for level, node := range path {
			place := i / 16
			if level == 1 {
				place = 0
			}
			if !bytes.Equal(node, levels[level][place]) {
				v.t.Errorf("%s: Path of %d: another node at level %d", what, i, level)
			}
		}
	}
}

// places are some blocks of tags: the first ones, the last ones, and those at the edges of nodes.
func (v *volume) places() []int {
	var list []int
	for i := range v.tags {
		if i < 2 || i%16 == 0 || i%16 == 15 || i >= len(v.tags)-2 {
			list = append(list, i)
		}
	}
	return list
}

// staged is what a stage should have: no more, and no less.
func (v *volume) staged(what string, want map[int][]byte) {
	v.t.Helper()
	if v.s.Len() != len(want) {
		v.t.Errorf("%s: %d blocks are staged, not %d", what, v.s.Len(), len(want))
	}
	for n := range v.l.Blocks {
		b, e := v.s.Read(n)
		staged, is := want[n]
		if !is {
			staged, _ = v.s.cache.Read(n)
		}
		if e != api.OK || !bytes.Equal(b, staged) {
			v.t.Errorf("%s: block %d is another one, %d", what, n, e)
		}
	}
}

// P17.2: the chapter's example.
func TestExample(t *testing.T) {
	l := layoutOf(t, 100)
	nodes, _ := Fresh(l)
	if Leaves(l) != 13 || len(nodes) != 1 || len(nodes[0]) != 1 || len(nodes[0][0]) != 512 {
		t.Errorf("%d leaves, %d levels", Leaves(l), len(nodes))
	}
}

// P17.2: a leaf for each block of tags.
func TestLeaves(t *testing.T) {
	for sectors := 1; sectors <= 1024; sectors++ {
		want := 0
		for 8*want < sectors {
			want++
		}
		if got := Leaves(layoutOf(t, sectors)); got != want {
			t.Errorf("%d sectors: %d leaves, not %d", sectors, got, want)
		}
	}
	for _, x := range [][3]int{{0, 0, 0}, {5, 3, -2}, {-3, 4, 7}, {100, 356, 256}} {
		if got := Leaves(api.Layout{Tags: x[0], Data: x[1]}); got != x[2] {
			t.Errorf("Data %d less Tags %d: %d", x[1], x[0], got)
		}
	}
}

// P17.3: the tree of blocks that are zeros.
func TestFresh(t *testing.T) {
	for sectors := 1; sectors <= 1024; sectors++ {
		l := layoutOf(t, sectors)
		var zeros [][]byte
		for range l.Data - l.Tags {
			zeros = append(zeros, make([]byte, 512))
		}
		want, wantRoot := wordedTree(zeros)
		nodes, root := Fresh(l)
		if root != wantRoot || len(nodes) != len(l.Levels) {
			t.Fatalf("%d sectors: %d levels, root %x", sectors, len(nodes), root)
		}
		for level := range nodes {
			if len(nodes[level]) != l.Levels[level] || !slices.EqualFunc(nodes[level], want[level], bytes.Equal) {
				t.Errorf("%d sectors: other nodes at level %d", sectors, level)
			}
		}
	}
}

// P17.3: a disk that has Fresh's nodes, and zeros, is right by Fresh's root.
func TestFreshIsRight(t *testing.T) {
	for _, sectors := range sizes {
		v := newVolume(t, sectors)
		nodes, root := Fresh(v.l)
		v.root = root
		n := v.l.Tree
		for _, level := range nodes {
			for _, b := range level {
				v.d.Tamper(n, b)
				n++
			}
		}
		for i := range v.tags {
			v.tags[i] = make([]byte, 512)
			v.d.Tamper(v.l.Tags+i, v.tags[i])
		}
		if n != v.l.Tags {
			t.Errorf("%d sectors: the nodes end at block %d, not at %d", sectors, n, v.l.Tags)
		}
		v.right("fresh")
	}
}

// P17.2: of each block of tags the path, and the block itself.
func TestPathAndCheck(t *testing.T) {
	for _, sectors := range sizes {
		v := newVolume(t, sectors)
		before := v.d.Fork()
		v.right("at first")
		for _, i := range append([]int{len(v.tags), len(v.tags) + 1}, wild...) {
			if path, e := Path(v.s, v.l, i); len(path) != 0 || e != api.ErrArg {
				t.Errorf("%d sectors: Path of %d: %d nodes, %d", sectors, i, len(path), e)
			}
			if b, e := Check(v.s, v.l, i, v.root); len(b) != 0 || e != api.ErrArg {
				t.Errorf("%d sectors: Check of %d: %d", sectors, i, e)
			}
		}
		if v.s.Len() != 0 || !sample.SameDisks(v.d, before) {
			t.Errorf("%d sectors: something was staged, or written", sectors)
		}
	}
}

// P17.2: a bit of what is read, and all else of it, decides whether a block of tags is right.
func TestCheckOfOtherBlocks(t *testing.T) {
	for _, sectors := range []int{3, 100, 128, 300, 1024} {
		v := newVolume(t, sectors)
		for _, i := range v.places() {
			path := wordedPath(v.l, i)
			for n := v.l.Tree; n < v.l.Data; n++ {
				want := api.OK
				if n == v.l.Tags+i || slices.Contains(path, n) {
					want = api.ErrIntegrity
				}
				b := v.d.Sure(n)
				for _, at := range []int{0, 31, 32, (i % 16) * 32, (i%16)*32 + 31, 511} {
					b[at] ^= 0x10
					v.s.Write(n, b)
					b[at] ^= 0x10
					if got, e := Check(v.s, v.l, i, v.root); e != want || (len(got) != 0) != (e == api.OK) {
						t.Errorf("%d sectors, block %d turned at %d: Check of %d: %d, not %d", sectors, n, at, i, e, want)
					}
					v.s.Drop()
				}
			}
			for bit := range 256 {
				root := v.root
				root[bit/8] ^= 1 << (bit % 8)
				if b, e := Check(v.s, v.l, i, root); len(b) != 0 || e != api.ErrIntegrity {
					t.Errorf("%d sectors, bit %d of the root: Check of %d: %d", sectors, bit, i, e)
				}
			}
		}
	}
}

// P17.2: each bit of a block of tags, and of the nodes above it.
func TestCheckOfEachBit(t *testing.T) {
	v := newVolume(t, 300)
	const i = 20
	for _, n := range append(wordedPath(v.l, i), v.l.Tags+i) {
		b := v.d.Sure(n)
		for bit := range 8 * len(b) {
			b[bit/8] ^= 1 << (bit % 8)
			v.d.Tamper(n, b)
			if got, e := Check(v.s, v.l, i, v.root); len(got) != 0 || e != api.ErrIntegrity {
				t.Errorf("block %d, bit %d: %d", n, bit, e)
			}
			b[bit/8] ^= 1 << (bit % 8)
		}
		v.d.Tamper(n, b)
	}
	v.right("turned back")
}

// P17.2: a block of tags that is right elsewhere is not right here, and an elder one is not right any more.
func TestCheckOfMovedBlocks(t *testing.T) {
	v := newVolume(t, 300)
	for i := range v.tags {
		j := (i + 16) % len(v.tags)
		v.s.Write(v.l.Tags+i, v.tags[j])
		if b, e := Check(v.s, v.l, i, v.root); len(b) != 0 || e != api.ErrIntegrity {
			t.Errorf("the block of tags %d at %d: %d", j, i, e)
		}
		v.s.Drop()
	}
	elder, root := v.d.Fork(), v.root
	v.change(20, sample.Bytes(512))
	v.s.Commit()
	v.s.cache.Checkpoint()
	v.right("changed")
	now := v.root
	v.d.Tamper(v.l.Tags+20, elder.Sure(v.l.Tags+20))
	if _, e := Check(v.s, v.l, 20, now); e != api.ErrIntegrity {
		t.Errorf("an elder block of tags: %d", e)
	}
	for n := v.l.Tree; n < v.l.Data; n++ {
		v.d.Tamper(n, elder.Sure(n))
	}
	for i := range v.tags {
		if _, e := Check(v.s, v.l, i, now); e != api.ErrIntegrity {
			t.Errorf("an elder tree: %d: %d", i, e)
		}
		if _, e := Check(v.s, v.l, i, root); e != api.OK {
			t.Errorf("an elder tree by its root: %d: %d", i, e)
		}
	}
}

// P17.2, P17.3: what reading refuses: the nodes, the block of tags. Nothing is staged then.
func TestReadingIsRefused(t *testing.T) {
	for _, sectors := range []int{100, 300} {
		v := newVolume(t, sectors)
		refused := func(what string, i int, path, rest api.Errno) {
			t.Helper()
			staged := v.s.Len()
			if list, e := Path(v.s, v.l, i); (len(list) == 0) != (path != api.OK) || e != path {
				t.Errorf("%d sectors, %s: Path of %d: %d, not %d", sectors, what, i, e, path)
			}
			if b, e := Check(v.s, v.l, i, v.root); len(b) != 0 || e != rest {
				t.Errorf("%d sectors, %s: Check of %d: %d, not %d", sectors, what, i, e, rest)
			}
			if root, e := Change(v.s, v.l, i, make([]byte, 3), v.root); root != [32]byte{} || e != rest {
				t.Errorf("%d sectors, %s: Change of %d: %d, not %d", sectors, what, i, e, rest)
			}
			if v.s.Len() != staged {
				t.Errorf("%d sectors, %s: something was staged", sectors, what)
			}
		}
		v.d.Stop(0)
		refused("off", 3, api.ErrIO, api.ErrIO)
		refused("off, no leaf", len(v.tags), api.ErrArg, api.ErrArg)
		for _, n := range wordedPath(v.l, 3) {
			v.s.Write(n, v.d.Sure(n))
		}
		refused("off, the path staged", 3, api.OK, api.ErrIO)
		v.s.Write(v.l.Tags+3, v.tags[3])
		if b, e := Check(v.s, v.l, 3, v.root); e != api.OK || !bytes.Equal(b, v.tags[3]) {
			t.Errorf("off, all staged: %d", e)
		}
		v.d.Crash(nil)

		whole := v.l
		for n := whole.Tree; n < whole.Data; n++ {
			d, _ := disk.New(n)
			for k := range n {
				d.Tamper(k, v.d.Sure(k))
			}
			c, e := cache.Open(d, v.l.Journal, journalBlocks)
			if e != api.OK {
				t.Fatal(e)
			}
			v.s = NewStage(c)
			const i = 3
			path := wordedPath(v.l, i)
			if n <= path[len(path)-1] {
				refused("a short disk", i, api.ErrRange, api.ErrRange)
			} else if n <= v.l.Tags+i {
				refused("a short disk", i, api.OK, api.ErrRange)
			}
		}
	}
}

// P17.2: a cache that is of no more use refuses all reading.
func TestOfNoMoreUse(t *testing.T) {
	v := newVolume(t, 300)
	v.d.Stop(1)
	v.change(9, sample.Bytes(512))
	if e := v.s.Commit(); e != api.ErrIO || v.s.Len() != 3 {
		t.Errorf("Commit: %d, %d are staged", e, v.s.Len())
	}
	v.d.Crash(nil)
	if e := v.s.Commit(); e != api.ErrIO || v.s.Len() != 3 {
		t.Errorf("Commit again: %d, %d are staged", e, v.s.Len())
	}
	if _, e := Check(v.s, v.l, 9, v.root); e != api.OK {
		t.Errorf("what is staged: %d", e)
	}
	v.s.Drop()
	if path, e := Path(v.s, v.l, 9); len(path) != 0 || e != api.ErrIO {
		t.Errorf("Path: %d", e)
	}
	if b, e := Check(v.s, v.l, 9, v.root); len(b) != 0 || e != api.ErrIO {
		t.Errorf("Check: %d", e)
	}
	if root, e := Change(v.s, v.l, 9, make([]byte, 512), v.root); root != [32]byte{} || e != api.ErrIO {
		t.Errorf("Change: %d", e)
	}
	if e := v.s.Commit(); e != api.OK {
		t.Errorf("Commit of nothing: %d", e)
	}
}

// P17.3: which blocks are staged, with what, and the root.
func TestChange(t *testing.T) {
	source := sample.Source(7)
	for _, sectors := range sizes {
		v := newVolume(t, sectors)
		before := v.d.Fork()
		for _, i := range v.places() {
			tags, root := v.tags[i], v.root
			b := source.Bytes(512)
			v.change(i, b)
			levels, _ := wordedTree(v.tags)
			want := map[int][]byte{v.l.Tags + i: b}
			for level, n := range wordedPath(v.l, i) {
				want[n] = levels[level][[]int{i / 16, 0}[level]]
			}
			v.staged("Change", want)
			v.right("Change")
			v.s.Drop()
			v.tags[i], v.root = tags, root
		}
		if !sample.SameDisks(v.d, before) {
			t.Errorf("%d sectors: something was written", sectors)
		}
	}
}

// P17.3: a block of tags that stays as it was: it is staged, with its path, and the root stays too.
func TestChangeToTheSame(t *testing.T) {
	v := newVolume(t, 300)
	root := v.root
	v.change(17, v.tags[17])
	if v.root != root || v.s.Len() != 3 {
		t.Errorf("%d are staged, the root was changed: %t", v.s.Len(), v.root != root)
	}
	v.right("the same")
}

// P17.3: what Change refuses, in order: what Check refuses, then bytes of another length.
func TestChangeIsRefused(t *testing.T) {
	for _, sectors := range []int{1, 100, 300, 1024} {
		v := newVolume(t, sectors)
		refused := func(what string, i int, b []byte, root [32]byte, want api.Errno) {
			t.Helper()
			staged := v.s.Len()
			if got, e := Change(v.s, v.l, i, b, root); got != [32]byte{} || e != want || v.s.Len() != staged {
				t.Errorf("%d sectors, %s: %d, not %d; %d are staged, not %d", sectors, what, e, want, v.s.Len(), staged)
			}
		}
		block, other := sample.Bytes(512), v.root
		other[5]++
		for _, i := range append([]int{len(v.tags), len(v.tags) + 1}, wild...) {
			refused("no leaf", i, block, v.root, api.ErrArg)
			refused("no leaf, of another length", i, nil, v.root, api.ErrArg)
			refused("no leaf, another root", i, block, other, api.ErrArg)
		}
		for _, size := range []int{0, 1, 511, 513, 1024} {
			refused("of another length", 0, sample.Bytes(size), v.root, api.ErrSize)
			refused("of another length, another root", 0, sample.Bytes(size), other, api.ErrIntegrity)
		}
		refused("another root", 0, block, other, api.ErrIntegrity)
		for _, n := range append(wordedPath(v.l, 0), v.l.Tags) {
			b := v.d.Sure(n)
			b[40] ^= 1
			v.s.Write(n, b)
			refused("a block was turned", 0, block, v.root, api.ErrIntegrity)
			refused("a block was turned, of another length", 0, nil, v.root, api.ErrIntegrity)
			v.s.Drop()
		}
		v.right("behind all that")
	}
}

// P17.3: a path's wrong sibling is no matter of another leaf's, and stays wrong behind its change.
func TestChangeHidesNothing(t *testing.T) {
	v := newVolume(t, 300)
	v.s.Write(v.l.Tags+1, sample.Bytes(512))
	b := sample.Bytes(512)
	v.change(0, b)
	if _, e := Check(v.s, v.l, 0, v.root); e != api.OK {
		t.Errorf("the changed one: %d", e)
	}
	if _, e := Check(v.s, v.l, 1, v.root); e != api.ErrIntegrity {
		t.Errorf("the one that somebody wrote: %d", e)
	}
}

// P17.4: changes one behind the other, staged, committed, and opened anew in between.
func TestChangesOneBehindTheOther(t *testing.T) {
	for _, sectors := range sizes {
		source := sample.Source(1000 + sectors)
		v := newVolume(t, sectors)
		for step := range 40 {
			i := source.Below(len(v.tags))
			b := v.tags[source.Below(len(v.tags))]
			if source.Below(4) > 0 {
				b = source.Bytes(512)
			}
			v.change(i, b)
			if v.s.Len() > v.s.cache.Most()-3 || source.Below(4) == 0 {
				if e := v.s.Commit(); e != api.OK {
					t.Fatal("Commit", e)
				}
				if source.Below(3) == 0 {
					v.open()
				}
			}
			if step%10 == 9 {
				v.right("changes")
			}
		}
	}
}

// P17.4: the order of changes is not to be seen in the root.
func TestChangesInAnyOrder(t *testing.T) {
	source := sample.Source(11)
	one, other := newVolume(t, 300), newVolume(t, 300)
	var blocks [][]byte
	for range one.tags {
		blocks = append(blocks, source.Bytes(512))
	}
	for i, b := range blocks {
		one.change(i, b)
	}
	for i := range slices.Backward(blocks) {
		other.change(i, blocks[i])
	}
	if one.root != other.root || one.s.Len() != len(blocks)+4 {
		t.Errorf("roots %x, %x; %d are staged", one.root, other.root, one.s.Len())
	}
	one.right("rising")
	other.right("falling")
}

// P17.1, P17.2, P17.3: of a nil Stage.
func TestNilStage(t *testing.T) {
	if NewStage(nil) != nil {
		t.Error("a stage of no cache")
	}
	var s *Stage
	l := layoutOf(t, 300)
	_, root := Fresh(l)
	s.Drop()
	if s.Len() != 0 || s.Commit() != api.ErrClosed {
		t.Errorf("Len %d, Commit %d", s.Len(), s.Commit())
	}
	for _, n := range append([]int{0, 5, l.Tags}, wild...) {
		if b, e := s.Read(n); len(b) != 0 || e != api.ErrClosed {
			t.Errorf("Read(%d): %d", n, e)
		}
		for _, size := range []int{0, 511, 512} {
			if e := s.Write(n, make([]byte, size)); e != api.ErrClosed {
				t.Errorf("Write(%d) of %d bytes: %d", n, size, e)
			}
		}
		for _, l := range []api.Layout{l, {}} {
			if path, e := Path(s, l, n); len(path) != 0 || e != api.ErrClosed {
				t.Errorf("Path of %d: %d", n, e)
			}
			if b, e := Check(s, l, n, root); len(b) != 0 || e != api.ErrClosed {
				t.Errorf("Check of %d: %d", n, e)
			}
			if got, e := Change(s, l, n, nil, root); got != [32]byte{} || e != api.ErrClosed {
				t.Errorf("Change of %d: %d", n, e)
			}
		}
	}
}

// R1: of layouts that no header has nothing is promised, but that each call ends.
func TestWildLayouts(t *testing.T) {
	v := newVolume(t, 300)
	numbers := append([]int{0, 1, 5, v.l.Tree, v.l.Tags, v.l.Data, v.l.Blocks}, wild...)
	levels := [][]int{nil, {1}, {0}, {3, 1}, {-1, -1}, {math.MaxInt, math.MaxInt}, {math.MinInt, 1, 1}, slices.Repeat([]int{1}, 70)}
	var layouts []api.Layout
	for _, tags := range numbers {
		for _, data := range numbers {
			for _, first := range []int{v.l.Tree, math.MinInt, math.MaxInt} {
				for _, counts := range levels {
					layouts = append(layouts, api.Layout{Tree: first, Levels: counts, Tags: tags, Data: data})
				}
			}
		}
	}
	for _, l := range layouts {
		Fresh(l)
		for _, i := range []int{0, 1, 37, Leaves(l) - 1, Leaves(l), math.MaxInt, math.MinInt} {
			Path(v.s, l, i)
			Check(v.s, l, i, v.root)
			Change(v.s, l, i, make([]byte, 512), v.root)
			v.s.Drop()
		}
	}
}

// R3: what is handed in is left alone, and not kept.
func TestArgumentsAreLeftAlone(t *testing.T) {
	v := newVolume(t, 300)
	room := sample.Bytes(1000)
	kept := bytes.Clone(room)
	levels := append(slices.Clone(v.l.Levels), 77)
	l := v.l
	l.Levels = levels[:2]
	v.s.Write(v.l.Data+3, room[:512])
	root, e := Change(v.s, l, 20, room[:512], v.root)
	if e != api.OK {
		t.Fatal(e)
	}
	Fresh(l)
	Path(v.s, l, 20)
	Check(v.s, l, 20, root)
	if !bytes.Equal(room, kept) || !slices.Equal(levels, append(slices.Clone(v.l.Levels), 77)) {
		t.Error("an argument was changed")
	}
	clear(room)
	for _, n := range []int{v.l.Data + 3, v.l.Tags + 20} {
		if b, e := v.s.Read(n); e != api.OK || !bytes.Equal(b, kept[:512]) {
			t.Errorf("block %d: an argument was kept", n)
		}
	}
	if e := v.s.Commit(); e != api.OK {
		t.Fatal(e)
	}
	if b, e := Check(v.s, l, 20, root); e != api.OK || !bytes.Equal(b, kept[:512]) {
		t.Error("committed: an argument was kept")
	}
}

// R3: answers are new memory, whether blocks are staged, dirty or on the disk.
func TestAnswersAreNew(t *testing.T) {
	v := newVolume(t, 300)
	v.change(20, sample.Bytes(512))
	look := func(what string) {
		t.Helper()
		asks := map[string]func() []byte{
			"Read":  func() []byte { b, _ := v.s.Read(v.l.Tags + 20); return b },
			"Check": func() []byte { b, _ := Check(v.s, v.l, 20, v.root); return b },
		}
		for level := range v.l.Levels {
			asks["Path "+string(rune('0'+level))] = func() []byte { path, _ := Path(v.s, v.l, 20); return path[level] }
		}
		nodes, _ := Fresh(v.l)
		for level := range nodes {
			for place := range nodes[level] {
				asks["Fresh "+string(rune('0'+level))+string(rune('0'+place))] = func() []byte { nodes, _ := Fresh(v.l); return nodes[level][place] }
			}
		}
		for name, ask := range asks {
			if len(ask()) != 512 {
				t.Errorf("%s, %s: %d bytes", what, name, len(ask()))
			}
			if wrong := sample.NotNew(ask); wrong != "" {
				t.Errorf("%s, %s: %s", what, name, wrong)
			}
		}
		v.right(what)
	}
	look("staged")
	v.s.Commit()
	look("dirty")
	v.s.cache.Checkpoint()
	look("on the disk")
	// The lists of one answer.
	path, _ := Path(v.s, v.l, 20)
	other := bytes.Clone(path[1])
	clear(path[0][:cap(path[0])])
	if !bytes.Equal(path[1], other) {
		t.Error("a path's nodes share memory")
	}
	nodes, _ := Fresh(v.l)
	first := bytes.Clone(nodes[0][0])
	clear(nodes[0][1][:cap(nodes[0][1])])
	if !bytes.Equal(nodes[0][0], first) {
		t.Error("fresh nodes share memory")
	}
}

// redosOf are blocks, by rising numbers.
func redosOf(blocks map[int][]byte) []api.Redo {
	var list []api.Redo
	for _, n := range slices.Sorted(maps.Keys(blocks)) {
		list = append(list, api.Redo{Block: n, Bytes: blocks[n]})
	}
	return list
}
