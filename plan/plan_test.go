package plan

import (
	"math"
	"slices"
	"testing"

	"casket/api"
	"casket/sample"
)

// wild are numbers that no sector has, and no frontier.
var wild = []int{math.MinInt, math.MinInt + 1, math.MinInt32, -1 << 32, -1<<32 + 5, -17, -16, -1, 1025, 1 << 16, 1<<31 - 1, 1 << 32, 1<<32 + 5, math.MaxInt - 15, math.MaxInt}

// headOf is a header of so many sectors, of which a step takes some.
func headOf(sectors, segment int) api.Head {
	return api.Head{Generation: 1, Sectors: sectors, Slots: 1, Journal: 26, Segment: segment, Params: api.Params{Time: 1, Memory: 8, Lanes: 1}}
}

// heads are headers that may be: all small ones, and some at the edges.
func heads() []api.Head {
	var list []api.Head
	for segment := 1; segment <= 16; segment++ {
		for sectors := 1; sectors <= 40; sectors++ {
			list = append(list, headOf(sectors, segment))
		}
		for _, sectors := range []int{255, 256, 257, 1008, 1009, 1023, 1024} {
			list = append(list, headOf(sectors, segment))
		}
	}
	return list
}

// rootAt is a root with a rekey that has done so many sectors.
func rootAt(frontier int) api.Root {
	return api.Root{Counter: math.MaxUint64, Rekeying: true, Frontier: frontier, Tree: [32]byte{0: 5, 31: 6}}
}

// still is the same root without a rekey.
func still() api.Root {
	return api.Root{Counter: math.MaxUint64, Tree: [32]byte{0: 5, 31: 6}}
}

// wordedSteps are the steps that are left of a rekey, each with the sectors it takes, counted one by one.
func wordedSteps(h api.Head, frontier int) [][]int {
	var steps [][]int
	for n := frontier; n < h.Sectors; n++ {
		if (n-frontier)%h.Segment == 0 {
			steps = append(steps, nil)
		}
		steps[len(steps)-1] = append(steps[len(steps)-1], n)
	}
	if len(steps) == 0 { // it has yet to end
		steps = append(steps, nil)
	}
	return steps
}

// refuses asks that each call refuses a root as one that may not be the header's.
func refuses(t *testing.T, what string, h api.Head, r api.Root) {
	t.Helper()
	if May(h, r) {
		t.Errorf("%s: May", what)
	}
	nextIs(t, what, h, r, 0, 0, api.ErrArg)
	stepsAre(t, what, h, r, 0, api.ErrArg)
	afterIs(t, what, h, r, api.Root{}, false, api.ErrArg)
	for _, n := range append([]int{0, 1, h.Sectors - 1, h.Sectors}, wild...) {
		keyIs(t, what, h, r, n, 0, api.ErrArg)
	}
}

func nextIs(t *testing.T, what string, h api.Head, r api.Root, from, to int, e api.Errno) {
	t.Helper()
	if a, b, f := Next(h, r); a != from || b != to || f != e {
		t.Errorf("%s: %d by %d at %d: Next: %d, %d, %d, not %d, %d, %d", what, h.Sectors, h.Segment, r.Frontier, a, b, f, from, to, e)
	}
}

func stepsAre(t *testing.T, what string, h api.Head, r api.Root, want int, e api.Errno) {
	t.Helper()
	if n, f := Steps(h, r); n != want || f != e {
		t.Errorf("%s: %d by %d at %d: Steps: %d, %d, not %d, %d", what, h.Sectors, h.Segment, r.Frontier, n, f, want, e)
	}
}

func afterIs(t *testing.T, what string, h api.Head, r api.Root, want api.Root, done bool, e api.Errno) {
	t.Helper()
	if x, d, f := After(h, r); x != want || d != done || f != e {
		t.Errorf("%s: %d by %d at %d: After: %+v, %t, %d, not %+v, %t, %d", what, h.Sectors, h.Segment, r.Frontier, x, d, f, want, done, e)
	}
}

func keyIs(t *testing.T, what string, h api.Head, r api.Root, n, want int, e api.Errno) {
	t.Helper()
	if k, f := Key(h, r, n); k != want || f != e {
		t.Errorf("%s: %d at %d: Key(%d): %d, %d, not %d, %d", what, h.Sectors, r.Frontier, n, k, f, want, e)
	}
}

// P22.1: the chapter's example.
func TestExample(t *testing.T) {
	nextIs(t, "the example", headOf(10, 4), rootAt(8), 8, 10, api.OK)
	stepsAre(t, "the example", headOf(10, 4), rootAt(8), 1, api.OK)
}

// P22.1: which roots may be; the others are ErrArg of each call.
func TestMay(t *testing.T) {
	for _, h := range heads() {
		if !May(h, still()) || !May(h, api.Root{}) {
			t.Errorf("%d: no rekey", h.Sectors)
		}
		for frontier := range h.Sectors + 1 {
			if !May(h, rootAt(frontier)) || !May(h, api.Root{Rekeying: true, Frontier: frontier}) {
				t.Errorf("%d at %d", h.Sectors, frontier)
			}
		}
	}
	for _, h := range []api.Head{headOf(1, 1), headOf(10, 4), headOf(1024, 16)} {
		for _, frontier := range append([]int{h.Sectors + 1, h.Sectors + h.Segment}, wild...) {
			refuses(t, "beyond", h, rootAt(frontier))
		}
		for _, frontier := range append([]int{1, h.Sectors - 1, h.Sectors, h.Sectors + 1}, wild...) {
			r := still()
			r.Frontier = frontier
			if frontier != 0 {
				refuses(t, "a frontier without a rekey", h, r)
			}
		}
	}
}

// P22.1, P22.2: headers that may not be.
func TestWrongHeads(t *testing.T) {
	for _, h := range sample.WrongHeads(headOf(10, 4)) {
		for _, r := range []api.Root{{}, still(), rootAt(0), rootAt(1), rootAt(10), rootAt(-1)} {
			refuses(t, "a header", h, r)
		}
		for _, crashes := range append([]int{0, 1, 100}, wild...) {
			if n := Bound(h, crashes); n != 0 {
				t.Errorf("%+v: Bound(%d): %d", h, crashes, n)
			}
		}
	}
}

// P22.1, P22.2: the next step and all that are left, at each frontier; also at those that no steps from 0 on lead to.
func TestSteps(t *testing.T) {
	for _, h := range heads() {
		for frontier := range h.Sectors + 1 {
			steps := wordedSteps(h, frontier)
			stepsAre(t, "on", h, rootAt(frontier), len(steps), api.OK)
			to := frontier + len(steps[0])
			nextIs(t, "on", h, rootAt(frontier), frontier, to, api.OK)
			if len(steps) == 1 {
				afterIs(t, "the last", h, rootAt(frontier), still(), true, api.OK)
			} else {
				afterIs(t, "on", h, rootAt(frontier), rootAt(to), false, api.OK)
			}
		}
	}
}

// P22.1, P22.2: no rekey is on.
func TestIdle(t *testing.T) {
	for _, h := range heads() {
		for _, r := range []api.Root{{}, still(), {Counter: 1}, {Tree: [32]byte{31: 1}}} {
			nextIs(t, "idle", h, r, 0, 0, api.ErrIdle)
			stepsAre(t, "idle", h, r, 0, api.OK)
			afterIs(t, "idle", h, r, api.Root{}, false, api.ErrIdle)
		}
	}
}

// P22.2: the root behind a step has the Tree and the Counter as they are.
func TestAfterKeepsTheRest(t *testing.T) {
	source := sample.Source(1)
	for range 200 {
		tree, counter := [32]byte(source.Bytes(32)), uint64(source.Below(1<<30))
		frontier := source.Below(101)
		r := api.Root{Counter: counter, Rekeying: true, Frontier: frontier, Tree: tree}
		if frontier+7 < 100 {
			afterIs(t, "on", headOf(100, 7), r, api.Root{Counter: counter, Rekeying: true, Frontier: frontier + 7, Tree: tree}, false, api.OK)
		} else {
			afterIs(t, "the last", headOf(100, 7), r, api.Root{Counter: counter, Tree: tree}, true, api.OK)
		}
	}
}

// P22.2: under which keys each sector lies; there is none beyond the last.
func TestKey(t *testing.T) {
	for _, h := range []api.Head{headOf(1, 1), headOf(2, 16), headOf(10, 4), headOf(100, 7), headOf(1024, 16)} {
		for frontier := range h.Sectors + 1 {
			for n := range h.Sectors {
				want := 0
				if n < frontier {
					want = 1
				}
				keyIs(t, "on", h, rootAt(frontier), n, want, api.OK)
			}
			keyIs(t, "beyond", h, rootAt(frontier), h.Sectors, 0, api.ErrRange)
		}
		for n := range h.Sectors {
			keyIs(t, "idle", h, still(), n, 0, api.OK)
		}
		for _, n := range append([]int{h.Sectors, h.Sectors + 1}, wild...) {
			keyIs(t, "no sector", h, still(), n, 0, api.ErrRange)
			keyIs(t, "no sector", h, rootAt(0), n, 0, api.ErrRange)
			keyIs(t, "no sector", h, rootAt(h.Sectors), n, 0, api.ErrRange)
		}
	}
}

// P22.2: a rekey's steps from the beginning on, and one for each crash; crashes below 0 are none.
func TestBound(t *testing.T) {
	for _, h := range heads() {
		steps := len(wordedSteps(h, 0))
		for _, crashes := range []int{0, 1, 2, 3, 100, 1 << 16, 1<<31 - 2000} {
			if n := Bound(h, crashes); n != steps+crashes {
				t.Errorf("%d by %d: Bound(%d): %d", h.Sectors, h.Segment, crashes, n)
			}
		}
		for _, crashes := range []int{-1, -2, -steps, -steps - 1, -2000, math.MinInt32, math.MinInt} {
			if n := Bound(h, crashes); n != steps {
				t.Errorf("%d by %d: Bound(%d): %d", h.Sectors, h.Segment, crashes, n)
			}
		}
		for _, less := range []int{0, 1, steps - 1, steps} {
			if n := Bound(h, math.MaxInt-less); n != math.MaxInt {
				t.Errorf("%d by %d: Bound(MaxInt - %d): %d", h.Sectors, h.Segment, less, n)
			}
		}
	}
}

// P22.3: steps take each sector once, in order; behind as many as Steps tells, and not before, no rekey is on.
func TestWholeRekeys(t *testing.T) {
	for _, h := range heads() {
		r := rootAt(0)
		left, _ := Steps(h, r)
		if left != Bound(h, 0) {
			t.Errorf("%d by %d: %d steps, at most %d", h.Sectors, h.Segment, left, Bound(h, 0))
		}
		var taken []int
		for ; left > 0; left-- {
			stepsAre(t, "on the way", h, r, left, api.OK)
			from, to, e := Next(h, r)
			if e != api.OK || !r.Rekeying {
				t.Fatalf("%d by %d: over with %d left: %d", h.Sectors, h.Segment, left, e)
			}
			for n := from; n < to; n++ {
				taken = append(taken, n)
			}
			next, done, e := After(h, r)
			if e != api.OK || done == next.Rekeying || !May(h, next) {
				t.Fatalf("%d by %d: After: %+v, %t, %d", h.Sectors, h.Segment, next, done, e)
			}
			r = next
		}
		if r != still() || !slices.Equal(taken, inOrder(h.Sectors)) {
			t.Errorf("%d by %d: %+v, taken: %d", h.Sectors, h.Segment, r, taken)
		}
	}
}

// inOrder are the numbers from 0 on.
func inOrder(count int) []int {
	var list []int
	for n := range count {
		list = append(list, n)
	}
	return list
}

// P22.3: steps that crashes undo are done again, and all of them are no more than Bound tells, if each crash undoes one.
func TestRekeysWithCrashes(t *testing.T) {
	source := sample.Source(2)
	for range 300 {
		h := headOf(1+source.Below(100), 1+source.Below(16))
		r, steps, crashes := rootAt(0), 0, 0
		for r.Rekeying {
			next, _, _ := After(h, r)
			steps++
			if crashes < 5 && source.Below(3) == 0 {
				crashes++
				continue
			}
			r = next
		}
		if steps != Bound(h, crashes) {
			t.Errorf("%d by %d: %d steps with %d crashes", h.Sectors, h.Segment, steps, crashes)
		}
	}
}
