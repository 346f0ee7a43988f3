package tree

import (
	"bytes"
	"crypto/sha256"
	"encoding/binary"
	"math"
	"slices"
	"testing"

	"casket/api"
	"casket/sample"
)

// wild are numbers that no tree has, neither of leaves nor as a place.
var wild = []int{math.MinInt, math.MinInt + 1, math.MinInt32, -1 << 32, -1<<32 + 17, -4096, -17, -16, -1, 4097, 4112, 65536, 1<<31 - 1, 1 << 31, 1 << 32, 1<<32 + 17, math.MaxInt - 15, math.MaxInt}

// counts are of leaves, at the edges of nodes and levels and between them.
var counts = []int{1, 2, 3, 15, 16, 17, 20, 31, 32, 33, 240, 241, 255, 256, 257, 271, 272, 273, 300, 512, 4080, 4081, 4095, 4096}

// summed is the digest of texts, as if they were one.
func summed(texts ...[]byte) [32]byte {
	return sha256.Sum256(slices.Concat(texts...))
}

// divided is n divided by 16 and rounded up.
func divided(n int) int {
	if n%16 == 0 {
		return n / 16
	}
	return n/16 + 1
}

// wordedLevels are as the chapter words them.
func wordedLevels(n int) []int {
	list := []int{divided(n)}
	for list[len(list)-1] != 1 {
		list = append(list, divided(list[len(list)-1]))
	}
	return list
}

// wordedNode is the node that stands at a place of a level, made from the leaves below it alone.
func wordedNode(leaves [][32]byte, level, place int) []byte {
	var node []byte
	for child := 16 * place; child < 16*place+16; child++ {
		var digest [32]byte
		if level == 0 && child < len(leaves) {
			digest = leaves[child]
		} else if level > 0 && child < wordedLevels(len(leaves))[level-1] {
			digest = summed([]byte{1, byte(level - 1)}, wordedNode(leaves, level-1, child))
		}
		node = append(node, digest[:]...)
	}
	return node
}

// wordedRoot is the root over the last level's node.
func wordedRoot(n int, node []byte) [32]byte {
	top := summed([]byte{1, byte(len(wordedLevels(n)) - 1)}, node)
	return summed([]byte{2}, binary.LittleEndian.AppendUint32(nil, uint32(n)), top[:])
}

// power is 16 to the power k.
func power(k int) int {
	if k == 0 {
		return 1
	}
	return 16 * power(k-1)
}

// stands tells whether a digest is the child of its place in a path's node.
func stands(digest [32]byte, i, level int, path [][]byte) bool {
	place := i / power(level) % 16
	return bytes.Equal(digest[:], path[level][32*place:32*place+32])
}

// areLinked tells whether the digest of each of a path's nodes is the child of its place in the next one.
func areLinked(i int, path [][]byte) bool {
	for level := 1; level < len(path); level++ {
		if !stands(summed([]byte{1, byte(level - 1)}, path[level-1]), i, level, path) {
			return false
		}
	}
	return true
}

// wordedArg tells whether n, i and a path may be.
func wordedArg(n, i int, path [][]byte) bool {
	return n >= 1 && n <= 4096 && len(path) == len(wordedLevels(n)) && !slices.ContainsFunc(path, func(b []byte) bool { return len(b) != 512 }) && i >= 0 && i <= n-1
}

func wordedCheck(n, i int, leaf [32]byte, path [][]byte, root [32]byte) api.Errno {
	if !wordedArg(n, i, path) {
		return api.ErrArg
	}
	if !stands(leaf, i, 0, path) || !areLinked(i, path) || wordedRoot(n, path[len(path)-1]) != root {
		return api.ErrIntegrity
	}
	return api.OK
}

func wordedChange(n, i int, leaf [32]byte, path [][]byte) ([][]byte, [32]byte, api.Errno) {
	if !wordedArg(n, i, path) {
		return nil, [32]byte{}, api.ErrArg
	}
	if !areLinked(i, path) {
		return nil, [32]byte{}, api.ErrIntegrity
	}
	changed := copied(path)
	child := leaf
	for level, node := range changed {
		place := i / power(level) % 16
		copy(node[32*place:], child[:])
		child = summed([]byte{1, byte(level)}, node)
	}
	return changed, wordedRoot(n, changed[len(changed)-1]), api.OK
}

// leavesOf are n digests.
func leavesOf(source *sample.Source, n int) [][32]byte {
	list := make([][32]byte, n)
	for i := range list {
		list[i] = [32]byte(source.Bytes(32))
	}
	return list
}

// built is a tree that must be there.
func built(t *testing.T, leaves [][32]byte) ([][][]byte, [32]byte) {
	t.Helper()
	levels, root, e := Build(leaves)
	if e != api.OK {
		t.Fatalf("Build of %d leaves: %d", len(leaves), e)
	}
	return levels, root
}

// pathOf is the leaf i's, in memory of its own.
func pathOf(levels [][][]byte, i int) [][]byte {
	var path [][]byte
	for level, nodes := range levels {
		path = append(path, bytes.Clone(nodes[i/power(level+1)]))
	}
	return path
}

func copied(path [][]byte) [][]byte {
	var list [][]byte
	for _, node := range path {
		list = append(list, bytes.Clone(node))
	}
	return list
}

func samePaths(a, b [][]byte) bool {
	return slices.EqualFunc(a, b, bytes.Equal)
}

// placesOf are some of n leaves: the first and last ones, those at the edges of nodes, and others.
func placesOf(source *sample.Source, n int) []int {
	var list []int
	for _, i := range []int{0, 1, 15, 16, 17, 255, 256, 257, n / 2, n - 17, n - 16, n - 2, n - 1, source.Below(n), source.Below(n)} {
		if i >= 0 && i < n {
			list = append(list, i)
		}
	}
	return list
}

// P16.1: the chapter's example.
func TestExample(t *testing.T) {
	if got := Levels(17); !slices.Equal(got, []int{2, 1}) {
		t.Errorf("17 leaves: %d", got)
	}
}

// P16.1: a leaf's digest, and a node's, of bytes of any length, at any level.
func TestLeafAndNode(t *testing.T) {
	source := sample.Source(1)
	for size := range 700 {
		b := source.Bytes(size)
		if Leaf(b) != summed([]byte{0}, b) {
			t.Errorf("a leaf of %d bytes", size)
		}
		level := size % 300
		if Node(level, b) != summed([]byte{1, byte(level)}, b) {
			t.Errorf("a node of %d bytes at level %d", size, level)
		}
	}
	if Leaf(nil) != summed([]byte{0}) || Leaf([]byte{}) != Leaf(nil) || Node(3, nil) != summed([]byte{1, 3}) {
		t.Error("of no bytes")
	}
	node := source.Bytes(512)
	for _, level := range append([]int{0, 1, 2, 255, 256, 257, 511, 512, 1 << 40}, wild...) {
		rest := level % 256
		if rest < 0 {
			rest += 256
		}
		if Node(level, node) != summed([]byte{1, byte(rest)}, node) {
			t.Errorf("a node at level %d", level)
		}
	}
}

// P16.1: how many nodes each level has, of all trees.
func TestLevels(t *testing.T) {
	for n := 1; n <= 4096; n++ {
		if got := Levels(n); !slices.Equal(got, wordedLevels(n)) {
			t.Errorf("%d leaves: %d", n, got)
		}
	}
	for n, want := range map[int][]int{1: {1}, 16: {1}, 256: {16, 1}, 257: {17, 2, 1}, 4096: {256, 16, 1}} {
		if got := Levels(n); !slices.Equal(got, want) {
			t.Errorf("%d leaves: %d, not %d", n, got, want)
		}
	}
	for _, n := range append([]int{0}, wild...) {
		if got := Levels(n); len(got) != 0 {
			t.Errorf("%d leaves: %d", n, got)
		}
	}
}

// P16.1: all nodes of trees, and their roots.
func TestBuild(t *testing.T) {
	source := sample.Source(2)
	for _, n := range counts {
		leaves := leavesOf(&source, n)
		levels, root := built(t, leaves)
		want := wordedLevels(n)
		if len(levels) != len(want) {
			t.Fatalf("%d leaves: %d levels", n, len(levels))
		}
		for level, nodes := range levels {
			if len(nodes) != want[level] {
				t.Fatalf("%d leaves: %d nodes at level %d", n, len(nodes), level)
			}
			for place, node := range nodes {
				// The nodes of great trees are looked at here and there: each is made from the leaves on.
				if (n < 600 || level > 0 || place%37 == 0 || place > 250) && !bytes.Equal(node, wordedNode(leaves, level, place)) {
					t.Errorf("%d leaves: the node %d of level %d", n, place, level)
				}
			}
		}
		if top := levels[len(levels)-1][0]; root != wordedRoot(n, top) {
			t.Errorf("%d leaves: another root", n)
		}
	}
}

// P16.1: a tree of each small number of leaves.
func TestBuildSmall(t *testing.T) {
	source := sample.Source(3)
	leaves := leavesOf(&source, 70)
	for n := 1; n <= len(leaves); n++ {
		levels, root := built(t, leaves[:n])
		top := len(wordedLevels(n)) - 1
		node := wordedNode(leaves[:n], top, 0)
		if !bytes.Equal(levels[top][0], node) || root != wordedRoot(n, node) {
			t.Errorf("%d leaves: another tree", n)
		}
	}
}

// P16.1: too few leaves, too many.
func TestBuildIsRefused(t *testing.T) {
	for _, leaves := range [][][32]byte{nil, {}, make([][32]byte, 4097), make([][32]byte, 4112), make([][32]byte, 65536+17), make([][32]byte, 10, 20)[:0]} {
		levels, root, e := Build(leaves)
		if len(levels) != 0 || root != [32]byte{} || e != api.ErrArg {
			t.Errorf("%d leaves: %d levels, %d", len(leaves), len(levels), e)
		}
	}
	if _, _, e := Build(make([][32]byte, 4096)); e != api.OK {
		t.Errorf("4096 leaves: %d", e)
	}
}

// P16.1: the root hangs on the number and on the path's last node alone.
func TestRoot(t *testing.T) {
	source := sample.Source(4)
	for _, n := range counts {
		levels, root := built(t, leavesOf(&source, n))
		for _, i := range placesOf(&source, n) {
			path := pathOf(levels, i)
			if got, e := Root(n, path); got != root || e != api.OK {
				t.Errorf("%d leaves, the path of %d: %d", n, i, e)
			}
			for level := range len(path) - 1 {
				path[level] = source.Bytes(512)
			}
			if got, e := Root(n, path); got != root || e != api.OK {
				t.Errorf("%d leaves, another path with the same last node: %d", n, e)
			}
			last := path[len(path)-1]
			last[source.Below(512)] ^= 1 << source.Below(8)
			if got, e := Root(n, path); got == root || got != wordedRoot(n, last) || e != api.OK {
				t.Errorf("%d leaves, another last node: %d", n, e)
			}
		}
	}
}

// wrongPaths are no paths of n leaves, by how many nodes there are or how long these are.
func wrongPaths(source *sample.Source, n int) [][][]byte {
	var list [][][]byte
	levels := len(wordedLevels(n))
	random := func(count int) [][]byte {
		var path [][]byte
		for range count {
			path = append(path, source.Bytes(512))
		}
		return path
	}
	for count := range 8 {
		if count != levels {
			list = append(list, random(count))
		}
	}
	for level := range levels {
		for _, size := range []int{0, 1, 32, 511, 513, 1024} {
			path := random(levels)
			path[level] = source.Bytes(size)
			list = append(list, path)
		}
		path := random(levels)
		path[level] = nil
		list = append(list, path)
	}
	// All bytes are there, but not as nodes of 512.
	if levels > 1 {
		path := random(levels)
		path[0], path[1] = append(path[0], path[1][0]), path[1][1:]
		list = append(list, path)
	}
	return list
}

// refused asks that all calls with a path tell ErrArg, and nothing beside it.
func refused(t *testing.T, n, i int, path [][]byte) {
	t.Helper()
	if e := Check(n, i, [32]byte{1}, path, [32]byte{2}); e != api.ErrArg {
		t.Errorf("Check(%d, %d), %d nodes: %d", n, i, len(path), e)
	}
	if changed, root, e := Change(n, i, [32]byte{1}, path); len(changed) != 0 || root != [32]byte{} || e != api.ErrArg {
		t.Errorf("Change(%d, %d), %d nodes: %d", n, i, len(path), e)
	}
}

// P16.1, P16.2: wrong numbers of leaves, wrong paths.
func TestWrongPaths(t *testing.T) {
	source := sample.Source(5)
	rootRefused := func(n int, path [][]byte) {
		t.Helper()
		if root, e := Root(n, path); root != [32]byte{} || e != api.ErrArg {
			t.Errorf("Root(%d), %d nodes: %d", n, len(path), e)
		}
	}
	for _, n := range counts {
		for _, path := range wrongPaths(&source, n) {
			rootRefused(n, path)
			refused(t, n, 0, path)
			refused(t, n, n-1, path)
		}
	}
	for _, n := range append([]int{0}, wild...) {
		for count := range 6 {
			path := make([][]byte, count)
			for level := range path {
				path[level] = make([]byte, 512)
			}
			rootRefused(n, path)
			for _, i := range append([]int{0, 1, 4095}, wild...) {
				refused(t, n, i, path)
			}
		}
	}
}

// P16.2: leaves that there are not, though a node has room for them.
func TestWrongPlaces(t *testing.T) {
	source := sample.Source(6)
	for _, n := range counts {
		levels, root := built(t, leavesOf(&source, n))
		path := pathOf(levels, n-1)
		for _, i := range append([]int{n, n + 1, n + 15, n + 16, 2 * n, 4096}, wild...) {
			refused(t, n, i, path)
			// A child that is not there has a digest of zeros.
			if e := Check(n, i, [32]byte{}, path, root); e != api.ErrArg {
				t.Errorf("%d leaves, no leaf at %d: %d", n, i, e)
			}
		}
	}
}

// P16.2, P16.3: Build's paths are right for each leaf, and for no other place.
func TestCheck(t *testing.T) {
	source := sample.Source(7)
	for _, n := range []int{1, 2, 16, 17, 40, 256, 257, 300} {
		leaves := leavesOf(&source, n)
		levels, root := built(t, leaves)
		for i, leaf := range leaves {
			path := pathOf(levels, i)
			if e := Check(n, i, leaf, path, root); e != api.OK {
				t.Errorf("%d leaves, leaf %d: %d", n, i, e)
			}
			for range 5 {
				other := source.Below(n)
				if e := Check(n, other, leaf, path, root); other != i && e != api.ErrIntegrity {
					t.Errorf("%d leaves, leaf %d in the place of %d: %d", n, i, other, e)
				}
				if e := Check(n, i, leaves[other], path, root); other != i && e != api.ErrIntegrity {
					t.Errorf("%d leaves, leaf %d by the path of %d: %d", n, other, i, e)
				}
			}
		}
	}
	leaves := leavesOf(&source, 4096)
	levels, root := built(t, leaves)
	for i := 0; i < 4096; i += 1 + source.Below(20) {
		if e := Check(4096, i, leaves[i], pathOf(levels, i), root); e != api.OK {
			t.Errorf("4096 leaves, leaf %d: %d", i, e)
		}
	}
}

// P16.2: the same leaves as if there were more or fewer of them.
func TestOtherNumbers(t *testing.T) {
	source := sample.Source(8)
	for _, n := range []int{1, 10, 16, 17, 100, 256, 257, 4096} {
		leaves := leavesOf(&source, n)
		levels, root := built(t, leaves)
		path := pathOf(levels, 0)
		for _, other := range []int{n - 1, n + 1, n + 2, 2 * n, n + 256, 16, 17, 256, 257, 4096} {
			if other == n || other < 1 {
				continue
			}
			want := api.ErrIntegrity
			if other > 4096 || len(wordedLevels(other)) != len(levels) {
				want = api.ErrArg
			}
			if e := Check(other, 0, leaves[0], path, root); e != want {
				t.Errorf("%d leaves, taken for %d: %d, not %d", n, other, e, want)
			}
		}
	}
}

// P16.2: each bit of a leaf, a path and a root that is turned is told.
func TestEachBit(t *testing.T) {
	source := sample.Source(9)
	for _, n := range []int{5, 20, 300} {
		leaves := leavesOf(&source, n)
		levels, root := built(t, leaves)
		i := source.Below(n)
		path := pathOf(levels, i)
		for bit := range 256 {
			leaf, other := leaves[i], root
			leaf[bit/8] ^= 1 << (bit % 8)
			other[bit/8] ^= 1 << (bit % 8)
			if Check(n, i, leaf, path, root) != api.ErrIntegrity || Check(n, i, leaves[i], path, other) != api.ErrIntegrity {
				t.Errorf("%d leaves: bit %d of the leaf or the root", n, bit)
			}
		}
		for level := range path {
			for bit := range 4096 {
				path[level][bit/8] ^= 1 << (bit % 8)
				if e := Check(n, i, leaves[i], path, root); e != api.ErrIntegrity {
					t.Errorf("%d leaves: bit %d of level %d: %d", n, bit, level, e)
				}
				path[level][bit/8] ^= 1 << (bit % 8)
			}
		}
		if e := Check(n, i, leaves[i], path, root); e != api.OK {
			t.Errorf("%d leaves, turned back: %d", n, e)
		}
	}
}

// P16.2: each of the three things that Check asks for is asked for by itself.
func TestWhatCheckAsks(t *testing.T) {
	source := sample.Source(10)
	for _, n := range []int{7, 100, 1000} {
		leaves := leavesOf(&source, n)
		levels, root := built(t, leaves)
		i := source.Below(n)
		path := pathOf(levels, i)
		other := [32]byte(source.Bytes(32))
		if e := Check(n, i, other, path, root); e != api.ErrIntegrity {
			t.Errorf("%d leaves, another leaf: %d", n, e)
		}
		if e := Check(n, i, leaves[i], path, other); e != api.ErrIntegrity {
			t.Errorf("%d leaves, another root: %d", n, e)
		}
		// The whole path is another tree's, right by itself: only the root tells.
		changed := slices.Clone(leaves)
		changed[i] = other
		otherLevels, otherRoot := built(t, changed)
		otherPath := pathOf(otherLevels, i)
		if Check(n, i, other, otherPath, otherRoot) != api.OK || Check(n, i, other, otherPath, root) != api.ErrIntegrity {
			t.Errorf("%d leaves: another tree", n)
		}
		// Up to a level the path is another tree's: only the link between the two tells.
		for level := 1; level < len(path); level++ {
			mixed := slices.Concat(otherPath[:level], path[level:])
			if e := Check(n, i, other, mixed, root); e != api.ErrIntegrity {
				t.Errorf("%d leaves, other nodes below level %d: %d", n, level, e)
			}
			mixed = slices.Concat(path[:level], otherPath[level:])
			if e := Check(n, i, leaves[i], mixed, otherRoot); e != api.ErrIntegrity {
				t.Errorf("%d leaves, other nodes from level %d on: %d", n, level, e)
			}
		}
	}
}

// P16.2, P16.3: Change tells what Build tells of the changed leaves.
func TestChange(t *testing.T) {
	source := sample.Source(11)
	for _, n := range counts {
		leaves := leavesOf(&source, n)
		levels, _ := built(t, leaves)
		for _, i := range placesOf(&source, n) {
			changed := slices.Clone(leaves)
			changed[i] = [32]byte(source.Bytes(32))
			path, root, e := Change(n, i, changed[i], pathOf(levels, i))
			wantLevels, want := built(t, changed)
			if e != api.OK || root != want || !samePaths(path, pathOf(wantLevels, i)) {
				t.Errorf("%d leaves, leaf %d changed: %d", n, i, e)
			}
			if e := Check(n, i, changed[i], path, root); e != api.OK {
				t.Errorf("%d leaves, leaf %d changed, and checked: %d", n, i, e)
			}
		}
	}
}

// P16.3: changes one behind the other.
func TestChanges(t *testing.T) {
	source := sample.Source(12)
	for _, n := range []int{1, 12, 16, 17, 90, 256, 257, 700} {
		leaves := leavesOf(&source, n)
		levels, _ := built(t, leaves)
		for range 60 {
			i := source.Below(n)
			leaves[i] = [32]byte(source.Bytes(32))
			path, root, e := Change(n, i, leaves[i], pathOf(levels, i))
			if e != api.OK {
				t.Fatalf("%d leaves, leaf %d: %d", n, i, e)
			}
			for level := range path {
				levels[level][i/power(level+1)] = path[level]
			}
			wantLevels, want := built(t, leaves)
			if root != want || !slices.EqualFunc(levels, wantLevels, samePaths) {
				t.Fatalf("%d leaves, leaf %d: another tree", n, i)
			}
		}
	}
}

// P16.2: Change asks for the links alone: neither for the leaf as it was, nor for a root.
func TestWhatChangeAsks(t *testing.T) {
	source := sample.Source(13)
	one := [][]byte{source.Bytes(512)}
	for i := range 16 {
		leaf := [32]byte(source.Bytes(32))
		path, root, e := Change(16, i, leaf, one)
		want, wantRoot, _ := wordedChange(16, i, leaf, one)
		if e != api.OK || root != wantRoot || !samePaths(path, want) {
			t.Errorf("a node of anything, leaf %d: %d", i, e)
		}
	}
	for _, n := range []int{20, 256, 300, 4096} {
		levels, _ := built(t, leavesOf(&source, n))
		i := source.Below(n)
		path := pathOf(levels, i)
		leaf := [32]byte(source.Bytes(32))
		for level := range path {
			top := level == len(path)-1
			for bit := 0; bit < 4096; bit += 1 + source.Below(9) {
				place := i / power(level) % 16
				own := level > 0 && bit/256 == place
				want := api.OK
				if !top || own {
					want = api.ErrIntegrity
				}
				path[level][bit/8] ^= 1 << (bit % 8)
				changed, root, e := Change(n, i, leaf, path)
				if e != want || e != api.OK && (len(changed) != 0 || root != [32]byte{}) {
					t.Errorf("%d leaves, bit %d of level %d: %d, not %d", n, bit, level, e, want)
				}
				path[level][bit/8] ^= 1 << (bit % 8)
			}
		}
	}
}

// P16.1, P16.2: any paths, right and wrong ones, as the words say.
func TestAnyPaths(t *testing.T) {
	source := sample.Source(14)
	var told [3]int
	for range 4000 {
		n := 1 + source.Below(4096)>>source.Below(12)
		i := source.Below(n)
		path, leaf, root := anyPath(&source, n, i)
		switch source.Below(12) {
		case 0:
			leaf[source.Below(32)] ^= 1
		case 1:
			root[source.Below(32)] ^= 128
		case 2:
			path[source.Below(len(path))][source.Below(512)] ^= 4
		case 3:
			i = source.Below(n)
		case 4:
			n = 1 + source.Below(4096)
		case 5:
			i = source.Below(n+20) - 10
		case 6:
			path = path[:len(path)-1]
		}
		want := wordedCheck(n, i, leaf, path, root)
		if e := Check(n, i, leaf, path, root); e != want {
			t.Errorf("Check(%d, %d): %d, not %d", n, i, e, want)
		}
		leaf = [32]byte(source.Bytes(32))
		changed, newRoot, e := Change(n, i, leaf, path)
		wantPath, wantRoot, f := wordedChange(n, i, leaf, path)
		if e != f || newRoot != wantRoot || !samePaths(changed, wantPath) {
			t.Errorf("Change(%d, %d): %d, not %d", n, i, e, f)
		}
		told[map[api.Errno]int{api.OK: 0, api.ErrArg: 1, api.ErrIntegrity: 2}[want]]++
	}
	if slices.Min(told[:]) < 300 {
		t.Errorf("right, no arguments, wrong: %d", told)
	}
}

// anyPath is right for the leaf i of n, with anything beside it.
func anyPath(source *sample.Source, n, i int) ([][]byte, [32]byte, [32]byte) {
	var path [][]byte
	leaf := [32]byte(source.Bytes(32))
	child := leaf
	for level := range wordedLevels(n) {
		node := source.Bytes(512)
		place := i / power(level) % 16
		copy(node[32*place:], child[:])
		child = summed([]byte{1, byte(level)}, node)
		path = append(path, node)
	}
	return path, leaf, wordedRoot(n, path[len(path)-1])
}

// texts are what the digests are of, on the way from a path's first node up to the root.
func texts(n int, path [][]byte) [][]byte {
	var list [][]byte
	for level, node := range path {
		list = append(list, slices.Concat([]byte{1, byte(level)}, node))
	}
	top := summed(list[len(list)-1])
	return append(list, slices.Concat([]byte{2}, binary.LittleEndian.AppendUint32(nil, uint32(n)), top[:]))
}

// showTwo tells whether two ways up have unlike texts of one digest.
func showTwo(n int, a, b [][]byte) bool {
	one, other := texts(n, a), texts(n, b)
	for k := range one {
		if !bytes.Equal(one[k], other[k]) && summed(one[k]) == summed(other[k]) {
			return true
		}
	}
	return false
}

// P16.4: of two unlike leaves of one place both are not right by one root and number, unless two unlike texts have one digest.
func TestTwoLeavesOfOnePlace(t *testing.T) {
	source := sample.Source(15)
	for _, n := range []int{3, 16, 17, 50, 257, 400} {
		leaves := leavesOf(&source, n)
		i := source.Below(n)
		type way struct {
			leaf [32]byte
			path [][]byte
		}
		var ways []way
		var roots [][32]byte
		for range 5 {
			leaves[i] = [32]byte(source.Bytes(32))
			levels, root := built(t, leaves)
			ways = append(ways, way{leaves[i], pathOf(levels, i)})
			roots = append(roots, root)
		}
		// Paths that are put together of right ones, each with each of the leaves.
		for range 40 {
			mixed := way{leaf: ways[source.Below(5)].leaf}
			for level := range ways[0].path {
				mixed.path = append(mixed.path, ways[source.Below(5)].path[level])
			}
			ways = append(ways, mixed)
		}
		for _, root := range roots {
			var right []way
			for _, w := range ways {
				if Check(n, i, w.leaf, w.path, root) == api.OK {
					right = append(right, w)
				}
			}
			if len(right) == 0 {
				t.Errorf("%d leaves: none is right", n)
			}
			for _, w := range right {
				if w.leaf != right[0].leaf && !showTwo(n, w.path, right[0].path) {
					t.Errorf("%d leaves: two are right at %d", n, i)
				}
			}
		}
	}
}

// P16.4: what is of one kind is none of another, and what is of one level none of another: else one text would stand for two things.
func TestKindsAreApart(t *testing.T) {
	source := sample.Source(16)
	node := source.Bytes(512)
	met := map[[32]byte]string{}
	meet := func(name string, digest [32]byte) {
		t.Helper()
		if elder, twice := met[digest]; twice {
			t.Errorf("%s has the digest of %s", name, elder)
		}
		met[digest] = name
	}
	meet("a leaf", Leaf(node))
	for level := range 256 {
		meet("a node", Node(level, node))
		meet("a leaf like a node", Leaf(slices.Concat([]byte{byte(level)}, node)))
	}
	for n := 1; n <= 16; n++ {
		root, _ := Root(n, [][]byte{node})
		top := Node(0, node)
		meet("a root", root)
		meet("a leaf like a root", Leaf(slices.Concat([]byte{byte(n), 0, 0, 0}, top[:])))
		meet("a node like a root", Node(n, slices.Concat([]byte{0, 0, 0}, top[:])))
	}
}

// R3: what is handed in is left alone, and so is the room behind it.
func TestArgumentsAreLeftAlone(t *testing.T) {
	source := sample.Source(17)
	room := source.Bytes(100)
	kept := bytes.Clone(room)
	Leaf(room[:50])
	Node(2, room[:50])
	if !bytes.Equal(room, kept) {
		t.Error("Leaf or Node changed its bytes")
	}
	leaves := leavesOf(&source, 300)
	keptLeaves := slices.Clone(leaves)
	levels, root := built(t, leaves[:270])
	if !slices.Equal(leaves, keptLeaves) {
		t.Error("Build changed its leaves")
	}
	path := pathOf(levels, 99)
	for level := range path {
		path[level] = append(path[level], source.Bytes(40)...)
	}
	keptPath := copied(path)
	short := make([][]byte, 0, 5)
	for level := range path {
		short = append(short, path[level][:512])
	}
	behind := append(short, []byte("behind"))
	Root(270, short)
	Check(270, 99, leaves[99], short, root)
	Change(270, 99, leaves[1], short)
	if !samePaths(path, keptPath) || len(behind) != 4 || string(behind[3]) != "behind" {
		t.Error("a path was changed")
	}
}

// R3: answers are new memory, and share nothing.
func TestAnswersAreNew(t *testing.T) {
	source := sample.Source(18)
	leaves := leavesOf(&source, 300)
	levels, _ := built(t, leaves)
	path := pathOf(levels, 280)
	for level := range levels {
		for place := range levels[level] {
			if wrong := sample.NotNew(func() []byte { levels, _ := built(t, leaves); return levels[level][place] }); wrong != "" {
				t.Errorf("Build, level %d, node %d: %s", level, place, wrong)
			}
		}
		if wrong := sample.NotNew(func() []byte { path, _, _ := Change(300, 280, leaves[280], path); return path[level] }); wrong != "" {
			t.Errorf("Change, level %d: %s", level, wrong)
		}
	}
	for _, nodes := range levels {
		for _, node := range nodes {
			before := copied(slices.Concat(levels...))
			was := bytes.Clone(node)
			clear(node[:cap(node)])
			copy(node, was)
			if !samePaths(before, slices.Concat(levels...)) {
				t.Fatal("a node lies in the room behind another")
			}
		}
		for _, node := range nodes[len(nodes):cap(nodes)] {
			if node != nil {
				t.Error("something is in the room behind a level's nodes")
			}
		}
	}
	for _, nodes := range levels[len(levels):cap(levels)] {
		if nodes != nil {
			t.Error("something is in the room behind the levels")
		}
	}
	changed, _, _ := Change(300, 280, leaves[280], path)
	clear(changed[0][:cap(changed[0])])
	if !bytes.Equal(changed[1], path[1]) || !bytes.Equal(path[0], levels[0][17]) {
		t.Error("a changed path shares memory")
	}
	for _, node := range changed[len(changed):cap(changed)] {
		if node != nil {
			t.Error("something is in the room behind a changed path")
		}
	}
	list := Levels(300)
	clear(list[:cap(list)])
	if !slices.Equal(Levels(300), []int{19, 2, 1}) {
		t.Error("Levels tells what it told")
	}
	list = Levels(300)
	for _, n := range list[len(list):cap(list)] {
		if n != 0 {
			t.Error("something is in the room behind the levels' numbers")
		}
	}
}
