// Package sample has bytes for the tests of the layers: they look like nothing, and are the same in each run. It also tells what crashes may keep and which headers may not be, holds disks against each other, and looks at the memory of what calls answer.
package sample

import (
	"bytes"
	"iter"
	"math"
	"slices"

	"casket/api"
)

// Source tells bytes, one behind the other; its number at first is what they hang on.
type Source uint64

// Bytes are the next ones.
func (s *Source) Bytes(count int) []byte {
	list := make([]byte, count)
	for i := range list {
		*s = *s*6364136223846793005 + 1442695040888963407
		list[i] = byte(*s >> 56)
	}
	return list
}

// Below is a number from 0 on, below a limit that is above 0.
func (s *Source) Below(limit int) int {
	number := 0
	for _, b := range s.Bytes(4) {
		number = number<<8 | int(b)
	}
	return number % limit
}

// Parts are pieces of b, one behind the other, short and long and some of them empty. They share b's memory.
func (s *Source) Parts(b []byte) [][]byte {
	var list [][]byte
	for len(b) > 0 {
		longest := min(len(b), 1+s.Below(200))
		size := s.Below(longest + 1)
		list = append(list, b[:size])
		b = b[size:]
	}
	return list
}

// Keeps goes over all that a crash may keep of unsure writes; if that is more than most, over so many of them.
func (s *Source) Keeps(unsure []api.Kept, most int) iter.Seq[[]api.Kept] {
	return func(yield func(keep []api.Kept) bool) {
		all := 1
		for _, k := range unsure {
			all = min(all*(k.Writes+1), most+1)
		}
		for i := range min(all, most) {
			var keep []api.Kept
			for _, k := range unsure {
				n := s.Below(k.Writes + 1)
				if all <= most {
					n, i = i%(k.Writes+1), i/(k.Writes+1)
				}
				keep = append(keep, api.Kept{Block: k.Block, Writes: n})
			}
			if !yield(keep) {
				return
			}
		}
	}
}

// Bytes are the first ones of the source 0.
func Bytes(count int) []byte {
	var source Source
	return source.Bytes(count)
}

// WrongHeads are headers that may not be: most are h, which may be, but for one part.
func WrongHeads(h api.Head) []api.Head {
	var list []api.Head
	change := func(part func(h *api.Head) *int, numbers ...int) {
		for _, n := range numbers {
			other := h
			*part(&other) = n
			list = append(list, other)
		}
	}
	change(func(h *api.Head) *int { return &h.Sectors }, math.MinInt, -1, 0, api.MaxSectors+1, math.MaxInt)
	change(func(h *api.Head) *int { return &h.Slots }, math.MinInt, -1, 0, api.MaxSlots+1, math.MaxInt)
	change(func(h *api.Head) *int { return &h.Journal }, math.MinInt, 0, api.MinJournal-1, api.MaxJournal+1, math.MaxInt)
	change(func(h *api.Head) *int { return &h.Segment }, math.MinInt, -1, 0, api.MaxSegment+1, math.MaxInt)
	change(func(h *api.Head) *int { return &h.Params.Time }, -1, 0, api.MaxTime+1)
	change(func(h *api.Head) *int { return &h.Params.Memory }, -1, 7, api.MaxMemory+1, math.MaxInt)
	change(func(h *api.Head) *int { return &h.Params.Lanes }, -1, 0, api.MaxLanes+1)
	unborn, narrow := h, h
	unborn.Generation = 0
	narrow.Journal, narrow.Segment = api.MinJournal, api.MinJournal-9 // each may be, but not beside the other
	return append(list, unborn, narrow, api.Head{})
}

// Disk is what a disk can tell of itself. Package disk is not asked for by name: its own tests take bytes from here.
type Disk[D any] interface {
	Len() int
	Off() bool
	Unsure() []api.Kept
	Sure(n int) []byte
	Crash(keep []api.Kept) api.Errno
	Fork() D
}

// SameDisks tells whether two disks are the same in all that can be told of them.
func SameDisks[D Disk[D]](a, b D) bool {
	if a.Len() != b.Len() || a.Off() != b.Off() || !slices.Equal(a.Unsure(), b.Unsure()) {
		return false
	}
	for n := range a.Len() {
		if !bytes.Equal(a.Sure(n), b.Sure(n)) {
			return false
		}
	}
	// Crashes that keep more and more tell what each of the unsure writes was.
	for writes, more := 1, true; more; writes++ {
		var keep []api.Kept
		more = false
		for _, k := range a.Unsure() {
			more = more || k.Writes > writes
			keep = append(keep, api.Kept{Block: k.Block, Writes: min(k.Writes, writes)})
		}
		if !sameBehind(a, b, keep) {
			return false
		}
	}
	return true
}

// sameBehind tells whether a crash leaves the same of two disks' unsure writes.
func sameBehind[D Disk[D]](a, b D, keep []api.Kept) bool {
	a, b = a.Fork(), b.Fork()
	a.Crash(keep)
	b.Crash(keep)
	return !slices.ContainsFunc(keep, func(k api.Kept) bool { return !bytes.Equal(a.Sure(k.Block), b.Sure(k.Block)) })
}

// NotNew tells what is wrong with the memory of a call's answer, which is the same bytes each time it is asked for; nothing, if the answer and the room behind it are new each time, and the room is empty.
func NotNew(ask func() []byte) string {
	first, second := ask(), ask()
	kept, behind := bytes.Clone(first), first[len(first):cap(first)]
	if !bytes.Equal(behind, make([]byte, len(behind))) {
		return "bytes are in the room behind the answer"
	}
	turn(behind)
	same := bytes.Equal(second, kept)
	turn(second[:cap(second)])
	if !same || !bytes.Equal(first, kept) || !bytes.Equal(ask(), kept) {
		return "answers share memory"
	}
	return ""
}

// turn changes each byte.
func turn(b []byte) {
	for i := range b {
		b[i] ^= 0xff
	}
}
