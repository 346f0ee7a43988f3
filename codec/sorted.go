package codec

import (
	"cmp"
	"iter"
	"slices"
)

// Sorted is values by rising numbers.
type Sorted[T any] struct {
	values map[int]T
}

// entry is a number and its value.
type entry[T any] struct {
	number int
	value  T
}

// NewSorted has no values.
func NewSorted[T any]() *Sorted[T] {
	return &Sorted[T]{values: map[int]T{}}
}

// Set gives n the value x.
func (s *Sorted[T]) Set(n int, x T) {
	if s == nil {
		return
	}
	s.values[n] = x
}

// Get is the value of n, if it has one.
func (s *Sorted[T]) Get(n int) (T, bool) {
	if s == nil {
		var none T
		return none, false
	}
	x, ok := s.values[n]
	return x, ok
}

// Delete takes n's value away, and tells whether there was one.
func (s *Sorted[T]) Delete(n int) bool {
	if s == nil {
		return false
	}
	_, had := s.values[n]
	delete(s.values, n)
	return had
}

// Len is how many numbers have values.
func (s *Sorted[T]) Len() int {
	if s == nil {
		return 0
	}
	return len(s.values)
}

// All goes over the numbers, rising, with their values.
func (s *Sorted[T]) All() iter.Seq2[int, T] {
	return func(yield func(int, T) bool) {
		for _, e := range s.entries() {
			if !yield(e.number, e.value) {
				return
			}
		}
	}
}

// Clear takes all values away.
func (s *Sorted[T]) Clear() {
	if s == nil {
		return
	}
	clear(s.values)
}

// entries are all numbers with their values, by rising numbers.
func (s *Sorted[T]) entries() []entry[T] {
	list := make([]entry[T], 0, s.Len())
	if s == nil {
		return list
	}
	for n, x := range s.values {
		list = append(list, entry[T]{n, x})
	}
	slices.SortFunc(list, func(a, b entry[T]) int { return cmp.Compare(a.number, b.number) })
	return list
}
