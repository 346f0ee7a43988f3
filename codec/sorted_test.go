package codec

import (
	"math"
	"slices"
	"testing"

	"casket/sample"
)

// wordedSorted is numbers and their values, as they are set, in no order.
type wordedSorted struct {
	numbers []int
	values  []string
}

func (s *wordedSorted) delete(n int) bool {
	at := slices.Index(s.numbers, n)
	if at < 0 {
		return false
	}
	s.numbers = slices.Delete(s.numbers, at, at+1)
	s.values = slices.Delete(s.values, at, at+1)
	return true
}

func (s *wordedSorted) set(n int, x string) {
	s.delete(n)
	s.numbers, s.values = append(s.numbers, n), append(s.values, x)
}

// same holds values by numbers against the worded ones.
func (s *wordedSorted) same(t *testing.T, got *Sorted[string]) {
	t.Helper()
	if got.Len() != len(s.numbers) {
		t.Fatalf("%d have values, not %d", got.Len(), len(s.numbers))
	}
	numbers, values := listed(got)
	if !slices.Equal(numbers, slices.Sorted(slices.Values(s.numbers))) {
		t.Fatalf("%v, not %v", numbers, s.numbers)
	}
	for i, n := range s.numbers {
		x, ok := got.Get(n)
		if !ok || x != s.values[i] || values[slices.Index(numbers, n)] != x {
			t.Fatalf("the value of %d: %q, %v, not %q", n, x, ok, s.values[i])
		}
	}
}

// listed are all numbers and their values, as they are gone over.
func listed[T any](s *Sorted[T]) ([]int, []T) {
	var numbers []int
	var values []T
	for n, x := range s.All() {
		numbers, values = append(numbers, n), append(values, x)
	}
	return numbers, values
}

// sortedOf has for each number its square.
func sortedOf(numbers ...int) *Sorted[int] {
	s := NewSorted[int]()
	for _, n := range numbers {
		s.Set(n, n*n)
	}
	return s
}

// P9.4
func TestSortedIsEmptyAtFirst(t *testing.T) {
	s := NewSorted[string]()
	if x, ok := s.Get(0); x != "" || ok || s.Len() != 0 || s.Delete(0) {
		t.Errorf("%q, %v, %d", x, ok, s.Len())
	}
	if numbers, _ := listed(s); len(numbers) != 0 {
		t.Errorf("%v", numbers)
	}
	s.Clear()
	s.Set(0, "x")
	if NewSorted[string]().Len() != 0 {
		t.Error("a new one has another one's values")
	}
}

// P9.4: all calls, one behind the other, over few numbers and many.
func TestSortedAsWorded(t *testing.T) {
	source := sample.Source(4)
	for _, limit := range []int{1, 5, 40, 100000} {
		s, want := NewSorted[string](), &wordedSorted{}
		for range 1500 {
			n := source.Below(limit) - limit/2
			switch what := source.Below(100); {
			case what == 0:
				s.Clear()
				*want = wordedSorted{}
			case what <= 20:
				if had := want.delete(n); s.Delete(n) != had {
					t.Fatalf("Delete(%d): not %v", n, had)
				}
				if x, ok := s.Get(n); ok || x != "" {
					t.Fatalf("%d has a value behind Delete: %q", n, x)
				}
			default:
				x := string(source.Bytes(3))
				s.Set(n, x)
				want.set(n, x)
			}
			want.same(t, s)
		}
	}
}

// P9.4: all numbers, the least and the greatest too.
func TestSortedNumbers(t *testing.T) {
	all := []int{math.MinInt, math.MinInt + 1, math.MinInt32, -11, -2, -1, 0, 1, 2, 9, 10, 11, 100, 1 << 32, math.MaxInt - 1, math.MaxInt}
	s := NewSorted[int]()
	for i := range all {
		n := all[(i*7)%len(all)]
		s.Set(n, n)
	}
	numbers, values := listed(s)
	if !slices.Equal(numbers, all) || !slices.Equal(values, all) || s.Len() != len(all) {
		t.Errorf("%v: %v", numbers, values)
	}
	for _, n := range all {
		if !s.Delete(n) || s.Delete(n) {
			t.Errorf("Delete(%d)", n)
		}
	}
	if s.Len() != 0 {
		t.Errorf("%d are left", s.Len())
	}
}

// P9.4: a value that is the zero value is one.
func TestSortedZeroValues(t *testing.T) {
	s := NewSorted[*int]()
	s.Set(3, nil)
	if x, ok := s.Get(3); x != nil || !ok || s.Len() != 1 {
		t.Errorf("%v, %v, %d", x, ok, s.Len())
	}
	if numbers, _ := listed(s); !slices.Equal(numbers, []int{3}) || !s.Delete(3) {
		t.Errorf("%v", numbers)
	}
}

// P9.4: values of any type, as they were set; of another number the zero value.
func TestSortedOfAnyType(t *testing.T) {
	type pair struct {
		name string
		list [2]int
	}
	pairs := NewSorted[pair]()
	pairs.Set(1, pair{"one", [2]int{1, 2}})
	pairs.Set(1, pair{"two", [2]int{3, 4}})
	if x, ok := pairs.Get(1); !ok || x != (pair{"two", [2]int{3, 4}}) || pairs.Len() != 1 {
		t.Errorf("%v, %v", x, ok)
	}
	if x, ok := pairs.Get(2); ok || x != (pair{}) {
		t.Errorf("%v, %v", x, ok)
	}
	lists := NewSorted[[]byte]()
	lists.Set(-1, []byte("ab"))
	if x, ok := lists.Get(-1); !ok || string(x) != "ab" {
		t.Errorf("%q, %v", x, ok)
	}
	if x, ok := lists.Get(1); ok || x != nil {
		t.Errorf("%q, %v", x, ok)
	}
}

// P9.4
func TestSortedClear(t *testing.T) {
	s := sortedOf(5, 3, 1000)
	s.Clear()
	for _, n := range []int{5, 3, 1000} {
		if x, ok := s.Get(n); x != 0 || ok || s.Delete(n) {
			t.Errorf("%d has a value: %d", n, x)
		}
	}
	if numbers, _ := listed(s); s.Len() != 0 || len(numbers) != 0 {
		t.Errorf("%d: %v", s.Len(), numbers)
	}
	s.Set(4, 1)
	if numbers, _ := listed(s); !slices.Equal(numbers, []int{4}) {
		t.Errorf("behind Clear: %v", numbers)
	}
}

// R5: it may be stopped at each place, and begins anew.
func TestAllMayBeStopped(t *testing.T) {
	s := sortedOf(9, 2, 7, 4)
	want := []int{2, 4, 7, 9}
	all := s.All()
	for stop := range 5 {
		var numbers []int
		for n, x := range all {
			if len(numbers) == stop {
				break
			}
			if x != n*n {
				t.Errorf("%d: %d", n, x)
			}
			numbers = append(numbers, n)
		}
		if !slices.Equal(numbers, want[:stop]) {
			t.Errorf("stopped behind %d: %v", stop, numbers)
		}
	}
	calls := 0
	all(func(int, int) bool { calls++; return false })
	if calls != 1 || s.Len() != 4 {
		t.Errorf("%d calls behind a stop, %d values", calls, s.Len())
	}
}

// R5: one within the other, each from its own beginning.
func TestAllWithinAll(t *testing.T) {
	s := sortedOf(1, 2, 3)
	all := s.All()
	var numbers []int
	for a := range all {
		for b := range all {
			numbers = append(numbers, 10*a+b)
		}
	}
	if !slices.Equal(numbers, []int{11, 12, 13, 21, 22, 23, 31, 32, 33}) {
		t.Errorf("%v", numbers)
	}
}

// R5: an iterator is as the object is when it is ranged over, not when it was answered; and that is looked at once, ahead of the first.
func TestAllIsAsTheObjectIs(t *testing.T) {
	s := sortedOf(8)
	all := s.All()
	s.Set(3, 9)
	s.Delete(8)
	s.Set(5, 25)
	var numbers []int
	for n := range all {
		numbers = append(numbers, n)
	}
	if !slices.Equal(numbers, []int{3, 5}) {
		t.Errorf("%v", numbers)
	}
	numbers = nil
	for n, x := range all {
		if x != n*n {
			t.Errorf("%d: %d", n, x)
		}
		numbers = append(numbers, n)
		s.Clear()
	}
	if !slices.Equal(numbers, []int{3, 5}) {
		t.Errorf("looked at again on the way: %v", numbers)
	}
	for n := range all {
		t.Errorf("%d, of none", n)
	}
}

// P9.4
func TestNilSorted(t *testing.T) {
	var s *Sorted[string]
	for _, n := range []int{math.MinInt, -1, 0, 1, math.MaxInt} {
		s.Set(n, "x")
		if x, ok := s.Get(n); x != "" || ok || s.Delete(n) || s.Len() != 0 {
			t.Errorf("%d: %q, %v, %d", n, x, ok, s.Len())
		}
	}
	s.Clear()
	all := s.All()
	if all == nil {
		t.Fatal("nothing to range over")
	}
	for n, x := range all {
		t.Errorf("%d: %q", n, x)
	}
}

// R4: many may look at one, each by itself.
func TestManyLookAtSorted(t *testing.T) {
	s := sortedOf(5, 1, 4, 2, 3)
	answers := make(chan []int)
	for range 8 {
		go func() {
			for range 20 {
				listed(s)
				s.Get(4)
			}
			_, values := listed(s)
			answers <- values
		}()
	}
	for range 8 {
		if got := <-answers; !slices.Equal(got, []int{1, 4, 9, 16, 25}) {
			t.Errorf("%v", got)
		}
	}
}
