// Package sample has bytes for the tests of the layers: they look like nothing, and are the same in each run.
package sample

// Source tells bytes, one behind the other; its number at first is what they hang on.
type Source uint64

// Bytes are the next ones.
func (s *Source) Bytes(count int) []byte {
	list := make([]byte, count)
	for i := range list {
		*s = *s*6364136223846793005 + 1442695040888963407
		list[i] = byte(*s >> 56)
	}
	return list
}

// Bytes are the first ones of the source 0.
func Bytes(count int) []byte {
	var source Source
	return source.Bytes(count)
}
