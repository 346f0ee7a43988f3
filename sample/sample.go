// Package sample has bytes for the tests of the layers: they look like nothing, and are the same in each run.
package sample

// Source tells bytes, one behind the other; its number at first is what they hang on.
type Source uint64

// Bytes are the next ones.
func (s *Source) Bytes(count int) []byte {
	list := make([]byte, count)
	for i := range list {
		*s = *s*6364136223846793005 + 1442695040888963407
		list[i] = byte(*s >> 56)
	}
	return list
}

// Below is a number from 0 on, below a limit that is above 0.
func (s *Source) Below(limit int) int {
	number := 0
	for _, b := range s.Bytes(4) {
		number = number<<8 | int(b)
	}
	return number % limit
}

// Parts are pieces of b, one behind the other, short and long and some of them empty. They share b's memory.
func (s *Source) Parts(b []byte) [][]byte {
	var list [][]byte
	for len(b) > 0 {
		longest := min(len(b), 1+s.Below(200))
		size := s.Below(longest + 1)
		list = append(list, b[:size])
		b = b[size:]
	}
	return list
}

// Bytes are the first ones of the source 0.
func Bytes(count int) []byte {
	var source Source
	return source.Bytes(count)
}
