package codec

import (
	"bytes"
	"encoding/binary"
	"math"
	"slices"
	"testing"

	"casket/api"
	"casket/sample"
)

// counts are numbers of bytes that are hard to be right about, beside the small ones.
var counts = []int{math.MinInt, math.MinInt + 1, math.MinInt32, -1 << 16, -8, -2, -1, 1<<16 + 1, 1<<24 + 1, 1 << 32, 1<<32 + 1, math.MaxInt - 1, math.MaxInt}

// widths are the numbers of bytes that a number may have.
var widths = []int{1, 2, 4, 8}

// wordedWriter is a writer as the chapter words it.
type wordedWriter struct {
	size  int
	bytes []byte
	whole bool
}

func (w *wordedWriter) put(may bool, b []byte) {
	if !may || len(w.bytes)+len(b) > w.size {
		w.whole = false
		return
	}
	w.bytes = slices.Concat(w.bytes, b)
}

func (w *wordedWriter) uint(n int, x uint64) {
	low := binary.LittleEndian.AppendUint64(nil, x)
	if !slices.Contains(widths, n) {
		w.put(false, nil)
		return
	}
	w.put(bytes.Equal(low[n:], make([]byte, 8-n)), low[:n])
}

func (w *wordedWriter) skip(n int) {
	if n < 0 || n > w.size {
		w.put(false, nil)
		return
	}
	w.put(true, make([]byte, n))
}

// same holds a writer against the worded one.
func (w *wordedWriter) same(t *testing.T, got *Writer) {
	t.Helper()
	if left := got.Left(); left != w.size-len(w.bytes) {
		t.Fatalf("size %d, %d written: %d left", w.size, len(w.bytes), left)
	}
	b, e := got.Done()
	if !w.whole {
		if len(b) != 0 || e != api.ErrCode {
			t.Fatalf("something was refused: %x, %d", b, e)
		}
		return
	}
	if want := slices.Concat(w.bytes, make([]byte, w.size-len(w.bytes))); e != api.OK || !bytes.Equal(b, want) {
		t.Fatalf("size %d: %x, %d, not %x", w.size, b, e, want)
	}
}

// wordedReader is a reader as the chapter words it.
type wordedReader struct {
	bytes []byte
	place int
	whole bool
}

// next are the next n bytes; none, if something was refused.
func (r *wordedReader) next(may bool, n int) []byte {
	r.whole = r.whole && may && n >= 0 && n <= len(r.bytes)-r.place
	if !r.whole {
		return nil
	}
	r.place += n
	return r.bytes[r.place-n : r.place]
}

func (r *wordedReader) uint(n int) uint64 {
	var low [8]byte
	copy(low[:], r.next(slices.Contains(widths, n), n))
	return binary.LittleEndian.Uint64(low[:])
}

func (r *wordedReader) zeros(n int) {
	ahead := *r
	b := ahead.next(true, n)
	r.next(bytes.Equal(b, make([]byte, len(b))), n)
}

// same holds a reader against the worded one.
func (r *wordedReader) same(t *testing.T, got *Reader) {
	t.Helper()
	left := r.bytes[r.place:]
	if got.Left() != len(left) {
		t.Fatalf("%d of %d bytes left, not %d", got.Left(), len(r.bytes), len(left))
	}
	want := api.ErrCode
	if r.whole && bytes.Equal(left, make([]byte, len(left))) {
		want = api.OK
	}
	if e := got.Done(); e != want {
		t.Fatalf("at %d of %x: %d, not %d", r.place, r.bytes, e, want)
	}
}

// doneOf is what a whole writer wrote.
func doneOf(t *testing.T, w *Writer) []byte {
	t.Helper()
	b, e := w.Done()
	if e != api.OK {
		t.Fatalf("Done: %d", e)
	}
	return b
}

// anyCount is a number of bytes: mostly a small one, now and then a wild one.
func anyCount(source *sample.Source, limit int) int {
	if source.Below(40) == 0 {
		return counts[source.Below(len(counts))]
	}
	return source.Below(limit)
}

// anyNumber is a number of any length of bits.
func anyNumber(source *sample.Source) uint64 {
	return binary.LittleEndian.Uint64(source.Bytes(8)) >> source.Below(65)
}

// P9.1: the chapter's example, and the order of the bytes of all widths.
func TestExamples(t *testing.T) {
	w := NewWriter(4)
	w.Uint(2, 258)
	if got := doneOf(t, w); !bytes.Equal(got, []byte{2, 1, 0, 0}) {
		t.Errorf("%x", got)
	}
	w = NewWriter(17)
	w.Uint(1, 0x12)
	w.Uint(2, 0x3456)
	w.Bytes([]byte("x"))
	w.Uint(4, 0x789abcde)
	w.Uint(8, 0xf123456789abcdef)
	want := []byte{0x12, 0x56, 0x34, 'x', 0xde, 0xbc, 0x9a, 0x78, 0xef, 0xcd, 0xab, 0x89, 0x67, 0x45, 0x23, 0xf1, 0}
	if got := doneOf(t, w); !bytes.Equal(got, want) || w.Left() != 1 {
		t.Errorf("%x, %d left", got, w.Left())
	}
	r := NewReader(want)
	if a, b := r.Uint(1), r.Uint(2); a != 0x12 || b != 0x3456 {
		t.Errorf("read: %x, %x", a, b)
	}
	if b := r.Bytes(1); string(b) != "x" {
		t.Errorf("read: %q", b)
	}
	if a, b := r.Uint(4), r.Uint(8); a != 0x789abcde || b != 0xf123456789abcdef {
		t.Errorf("read: %x, %x", a, b)
	}
	if r.Left() != 1 || r.Done() != api.OK {
		t.Errorf("%d left, %d", r.Left(), r.Done())
	}
}

// P9.1
func TestSizes(t *testing.T) {
	for _, size := range []int{0, 1, 2, 511, 512, 1 << 16, 1<<24 - 1, 1 << 24} {
		w := NewWriter(size)
		if got := doneOf(t, w); w.Left() != size || len(got) != size || bytes.Count(got, []byte{0}) != size {
			t.Errorf("size %d: %d left, %d bytes", size, w.Left(), len(got))
		}
		w.Skip(size)
		if got := doneOf(t, w); w.Left() != 0 || len(got) != size {
			t.Errorf("size %d, full: %d left, %d bytes", size, w.Left(), len(got))
		}
	}
	for _, size := range []int{math.MinInt, -1 << 24, -2, -1, 1<<24 + 1, 1 << 25, 1 << 32, 1<<32 + 1, math.MaxInt} {
		w := NewWriter(size)
		if got := doneOf(t, w); w.Left() != 0 || len(got) != 0 {
			t.Errorf("size %d: %d left, %d bytes", size, w.Left(), len(got))
		}
		w.Uint(1, 0)
		if _, e := w.Done(); e != api.ErrCode {
			t.Errorf("size %d: there is room: %d", size, e)
		}
	}
}

// P9.1, P9.2: numbers of other widths are refused, whatever they are.
func TestOtherWidths(t *testing.T) {
	for n := -20; n <= 70; n++ {
		widthIs(t, n, slices.Contains(widths, n))
	}
	for _, n := range counts {
		widthIs(t, n, false)
	}
}

func widthIs(t *testing.T, n int, right bool) {
	t.Helper()
	for _, x := range []uint64{0, 1, 200} {
		w := NewWriter(100)
		w.Uint(n, x)
		if b, e := w.Done(); (e == api.OK) != right || !right && (e != api.ErrCode || len(b) != 0 || w.Left() != 100) {
			t.Errorf("Uint(%d, %d): %x, %d, %d left", n, x, b, e, w.Left())
		}
	}
	r := NewReader(append([]byte{7}, make([]byte, 99)...))
	x := r.Uint(n)
	if e := r.Done(); right && (x != 7 || e != api.OK || r.Left() != 100-n) || !right && (x != 0 || e != api.ErrCode || r.Left() != 100) {
		t.Errorf("Uint(%d): %d, %d, %d left", n, x, e, r.Left())
	}
}

// P9.1: a number of any length of bits fits as many bytes as it has, or more.
func TestNumbersFit(t *testing.T) {
	for _, n := range widths {
		for length := range 65 {
			for _, x := range []uint64{1<<length - 1, 1 << length >> 1, (1<<length - 1) & 0xa5a5a5a5a5a5a5a5} {
				w, want := NewWriter(10), wordedWriter{10, nil, true}
				w.Uint(n, x)
				want.uint(n, x)
				want.same(t, w)
				if fits := n == 8 || x < 1<<(8*n); want.whole != fits {
					t.Fatalf("%d in %d bytes", x, n)
				}
			}
		}
	}
}

// P9.1: what fills the room is written; one byte more is refused, and leaves the room as it was.
func TestRoom(t *testing.T) {
	for size := range 20 {
		for _, n := range append(widths, 0, 3, 9, 19) {
			for _, x := range []struct {
				name string
				may  bool
				put  func(w *Writer)
			}{
				{"Uint", slices.Contains(widths, n), func(w *Writer) { w.Uint(n, 5) }},
				{"Bytes", true, func(w *Writer) { w.Bytes(make([]byte, n)) }},
				{"Skip", true, func(w *Writer) { w.Skip(n) }},
			} {
				w := NewWriter(size)
				for w.Left() >= n && n > 0 && x.may {
					ahead := w.Left()
					x.put(w)
					if w.Left() != ahead-n || len(doneOf(t, w)) != size {
						t.Fatalf("%s of %d: %d left of %d", x.name, n, w.Left(), ahead)
					}
				}
				ahead := w.Left()
				x.put(w)
				if _, e := w.Done(); w.Left() != ahead || (e == api.OK) != (x.may && n == 0) {
					t.Fatalf("size %d: %s of %d, where there is no room: %d, %d left of %d", size, x.name, n, e, w.Left(), ahead)
				}
			}
		}
	}
}

// P9.1: nothing is never too much.
func TestNothingHasRoom(t *testing.T) {
	for _, size := range []int{0, 5} {
		w := NewWriter(size)
		w.Skip(size)
		w.Bytes(nil)
		w.Bytes([]byte{})
		w.Skip(0)
		if b, e := w.Done(); len(b) != size || e != api.OK {
			t.Errorf("size %d, nothing behind the end: %x, %d", size, b, e)
		}
	}
	r := NewReader([]byte{1})
	r.Uint(1)
	if b := r.Bytes(0); len(b) != 0 {
		t.Errorf("Bytes(0): %x", b)
	}
	r.Zeros(0)
	if l := Get(r, 0, (*Reader).Left); len(l) != 0 || r.Done() != api.OK {
		t.Errorf("nothing behind the end: %v, %d", l, r.Done())
	}
}

// P9.1
func TestSkipOfWildCounts(t *testing.T) {
	for _, n := range counts {
		w := NewWriter(50)
		w.Uint(1, 1)
		w.Skip(n)
		if b, e := w.Done(); len(b) != 0 || e != api.ErrCode || w.Left() != 49 {
			t.Errorf("Skip(%d): %x, %d, %d left", n, b, e, w.Left())
		}
	}
}

// P9.1: a writer that refused something stays so. What comes behind is refused only for what it is.
func TestWriterBehindARefusal(t *testing.T) {
	for _, refused := range []func(w *Writer){
		func(w *Writer) { w.Uint(3, 0) },
		func(w *Writer) { w.Uint(1, 256) },
		func(w *Writer) { w.Bytes(make([]byte, 21)) },
		func(w *Writer) { w.Skip(-1) },
		func(w *Writer) { w.Skip(21) },
	} {
		w := NewWriter(20)
		refused(w)
		for range 2 {
			if b, e := w.Done(); len(b) != 0 || e != api.ErrCode || w.Left() != 20 {
				t.Errorf("refused: %x, %d, %d left", b, e, w.Left())
			}
		}
		w.Uint(4, 1)
		w.Bytes([]byte("ab"))
		w.Skip(3)
		if b, e := w.Done(); len(b) != 0 || e != api.ErrCode || w.Left() != 11 {
			t.Errorf("behind what was refused: %x, %d, %d left", b, e, w.Left())
		}
	}
}

// P9.1: calls of all kinds, one behind the other.
func TestWriterAsWorded(t *testing.T) {
	source := sample.Source(1)
	whole := 0
	for range 3000 {
		size := source.Below(120)
		w, want := NewWriter(size), wordedWriter{size, nil, true}
		for range source.Below(12) {
			switch source.Below(4) {
			case 0, 1:
				n, x := widths[source.Below(4)], anyNumber(&source)
				if source.Below(10) > 0 {
					x >>= 64 - 8*n
				}
				w.Uint(n, x)
				want.uint(n, x)
			case 2:
				b := source.Bytes(source.Below(20))
				w.Bytes(b)
				want.put(true, b)
			case 3:
				n := anyCount(&source, 20)
				w.Skip(n)
				want.skip(n)
			}
			want.same(t, w)
		}
		if want.whole {
			whole++
		}
	}
	if whole < 500 || whole > 2500 {
		t.Errorf("%d of 3000 are whole", whole)
	}
}

// P9.2: calls of all kinds, one behind the other, over bytes of which many are zeros.
func TestReaderAsWorded(t *testing.T) {
	source := sample.Source(2)
	whole := 0
	for range 5000 {
		b := source.Bytes(source.Below(80))
		for i := range b {
			if source.Below(8) > 0 {
				b[i] = 0
			}
		}
		r, want := NewReader(b), wordedReader{b, 0, true}
		want.same(t, r)
		for range source.Below(12) {
			switch source.Below(3) {
			case 0:
				n := widths[source.Below(4)]
				if source.Below(20) == 0 {
					n = anyCount(&source, 12)
				}
				if x, y := r.Uint(n), want.uint(n); x != y {
					t.Fatalf("Uint(%d): %d, not %d", n, x, y)
				}
			case 1:
				n := anyCount(&source, 12)
				if x, y := r.Bytes(n), want.next(true, n); !bytes.Equal(x, y) {
					t.Fatalf("Bytes(%d): %x, not %x", n, x, y)
				}
			case 2:
				n := anyCount(&source, 4)
				r.Zeros(n)
				want.zeros(n)
			}
			want.same(t, r)
		}
		if want.whole {
			whole++
		}
	}
	if whole < 500 || whole > 4500 {
		t.Errorf("%d of 5000 are whole", whole)
	}
}

// refusals are the ways by which a reader of ten bytes that are not zeros is refused.
func refusals() map[string]func(r *Reader) {
	refuse := map[string]func(r *Reader){
		"Uint(3)":     func(r *Reader) { r.Uint(3) },
		"Uint(0)":     func(r *Reader) { r.Uint(0) },
		"Bytes(-1)":   func(r *Reader) { r.Bytes(-1) },
		"Bytes(11)":   func(r *Reader) { r.Bytes(11) },
		"Zeros(-1)":   func(r *Reader) { r.Zeros(-1) },
		"Zeros(11)":   func(r *Reader) { r.Zeros(11) },
		"Zeros(1)":    func(r *Reader) { r.Zeros(1) },
		"Get of -1":   func(r *Reader) { Get(r, -1, (*Reader).Left) },
		"Get of 11":   func(r *Reader) { Get(r, 11, (*Reader).Left) },
		"Get of much": func(r *Reader) { Get(r, math.MaxInt, (*Reader).Left) },
	}
	return refuse
}

// P9.2: what is refused moves no place; behind it all is refused.
func TestReaderBehindARefusal(t *testing.T) {
	b := []byte("0123456789")
	for name, refuse := range refusals() {
		r := NewReader(b)
		refuse(r)
		for range 2 {
			if r.Left() != 10 || r.Done() != api.ErrCode {
				t.Errorf("%s: %d left, %d", name, r.Left(), r.Done())
			}
		}
		for _, n := range []int{0, 1, 2, 4, 8, 10} {
			called := 0
			list := Get(r, n, func(*Reader) int { called++; return 1 })
			if x, got := r.Uint(n), r.Bytes(n); x != 0 || len(got) != 0 || len(list) != 0 || called != 0 {
				t.Errorf("behind %s: Uint %d, Bytes %x, Get %v by %d calls", name, x, got, list, called)
			}
			r.Zeros(n)
		}
		if r.Left() != 10 || r.Done() != api.ErrCode {
			t.Errorf("behind all: %d left, %d", r.Left(), r.Done())
		}
	}
}

// P9.2: of too few bytes none is read, by one too few or by all.
func TestTooFew(t *testing.T) {
	for size := range 9 {
		for n := size + 1; n < 12; n++ {
			for name, read := range map[string]func(r *Reader) bool{
				"Uint":  func(r *Reader) bool { return r.Uint(n) == 0 },
				"Bytes": func(r *Reader) bool { return len(r.Bytes(n)) == 0 },
				"Zeros": func(r *Reader) bool { r.Zeros(n); return true },
			} {
				for _, b := range [][]byte{make([]byte, size), bytes.Repeat([]byte{9}, size)} {
					r := NewReader(b)
					if !read(r) || r.Left() != size || r.Done() != api.ErrCode {
						t.Errorf("%s of %d, where there are %d: %d left, %d", name, n, size, r.Left(), r.Done())
					}
				}
			}
		}
	}
}

// P9.2: all zeros are passed over, and one byte that is not one is found wherever it is.
func TestZeros(t *testing.T) {
	for n := range 20 {
		r := NewReader(append(make([]byte, n), 5))
		r.Zeros(n)
		if r.Left() != 1 || r.Uint(1) != 5 || r.Done() != api.OK {
			t.Errorf("Zeros(%d): %d left, %d", n, r.Left(), r.Done())
		}
		for i := range n {
			for bit := range 8 {
				b := make([]byte, 20)
				b[i] = 1 << bit
				r := NewReader(b)
				r.Zeros(n)
				if r.Left() != 20 || r.Done() != api.ErrCode {
					t.Errorf("Zeros(%d), byte %d is %d: %d left, %d", n, i, b[i], r.Left(), r.Done())
				}
			}
		}
	}
}

// P9.2: Done looks at what is left, and reads nothing: what it finds is not refused.
func TestDoneReadsNothing(t *testing.T) {
	b := make([]byte, 30)
	b[20] = 1
	r := NewReader(b)
	for n := range 30 {
		want := api.OK
		if n <= 20 {
			want = api.ErrCode
		}
		if e := r.Done(); e != want || r.Left() != 30-n {
			t.Fatalf("at %d: %d, %d left", n, e, r.Left())
		}
		if x := r.Uint(1); x != uint64(b[n]) {
			t.Fatalf("at %d: %d", n, x)
		}
	}
	if e := r.Done(); e != api.OK {
		t.Errorf("at the end: %d", e)
	}
}

// P9.2: nothing to read.
func TestReaderOfNothing(t *testing.T) {
	for _, b := range [][]byte{nil, {}} {
		r := NewReader(b)
		if r.Left() != 0 || r.Done() != api.OK {
			t.Errorf("%d left, %d", r.Left(), r.Done())
		}
		if x := r.Uint(1); x != 0 || r.Done() != api.ErrCode {
			t.Errorf("a number of nothing: %d, %d", x, r.Done())
		}
	}
}

// P9.3: each item, in order, with the writer; those behind a refusal too.
func TestPut(t *testing.T) {
	for _, size := range []int{100, 4, 0} {
		for _, l := range [][]string{nil, {}, {"a"}, {"one", "", "two", "three"}} {
			w, want := NewWriter(size), wordedWriter{size, nil, true}
			for range 2 {
				var handed []string
				Put(w, l, func(to *Writer, x string) {
					if to != w {
						t.Error("another writer")
					}
					handed = append(handed, x)
					to.Bytes([]byte(x))
				})
				for _, x := range l {
					want.put(true, []byte(x))
				}
				if !slices.Equal(handed, l) {
					t.Errorf("%q are handed, not %q", handed, l)
				}
				want.same(t, w)
			}
		}
	}
}

// P9.3: lists of any type.
func TestListsOfAnyType(t *testing.T) {
	type pair struct {
		number int
		name   [4]byte
	}
	pairs := []pair{{1, [4]byte{'a', 'b'}}, {70000, [4]byte{'c'}}, {0, [4]byte{}}}
	w := NewWriter(40)
	Put(w, pairs, func(w *Writer, p pair) {
		w.Uint(4, uint64(p.number))
		w.Bytes(p.name[:])
	})
	Put(w, []bool{true, false, true}, func(w *Writer, is bool) {
		if is {
			w.Uint(1, 1)
			return
		}
		w.Skip(1)
	})
	r := NewReader(doneOf(t, w))
	got := Get(r, 3, func(r *Reader) pair {
		number := r.Uint(4)
		return pair{int(number), [4]byte(r.Bytes(4))}
	})
	flags := Get(r, 3, func(r *Reader) bool { return r.Uint(1) == 1 })
	if !slices.Equal(got, pairs) || !slices.Equal(flags, []bool{true, false, true}) || r.Left() != 13 || r.Done() != api.OK {
		t.Errorf("%v, %v, %d left, %d", got, flags, r.Left(), r.Done())
	}
}

// P9.3: as many items as there are bytes left at most, also if an item reads none, or more than one.
func TestGetCounts(t *testing.T) {
	for n := -3; n <= 14; n++ {
		for each := range 4 {
			r := NewReader([]byte("abcdefghij"))
			calls := 0
			got := Get(r, n, func(of *Reader) string {
				if of != r {
					t.Error("another reader")
				}
				calls++
				return string(of.Bytes(each))
			})
			switch {
			case n < 0 || n > 10:
				if len(got) != 0 || calls != 0 || r.Left() != 10 || r.Done() != api.ErrCode {
					t.Errorf("%d items: %q by %d calls, %d left", n, got, calls, r.Left())
				}
			case n*each > 10: // the first item for which there is too little ends it
				if len(got) != 0 || calls != 10/each+1 || r.Left() != 10%each || r.Uint(1) != 0 {
					t.Errorf("%d items of %d bytes: %q by %d calls, %d left", n, each, got, calls, r.Left())
				}
			default:
				if len(got) != n || calls != n || r.Left() != 10-n*each || n > 1 && got[1] != "abcdefghij"[each:2*each] {
					t.Errorf("%d items of %d bytes: %q by %d calls, %d left", n, each, got, calls, r.Left())
				}
			}
		}
	}
	for _, n := range counts {
		r := NewReader(make([]byte, 10))
		if got := Get(r, n, (*Reader).Left); len(got) != 0 || r.Left() != 10 || r.Done() != api.ErrCode {
			t.Errorf("%d items: %v, %d left, %d", n, got, r.Left(), r.Done())
		}
	}
}

// P9.3: it ends at the item by which the reader was refused, the first or the last one, and what was told ahead is told no more.
func TestGetEndsAtARefusal(t *testing.T) {
	for name, refuse := range refusals() {
		for bad := range 5 {
			r := NewReader([]byte("0123456789"))
			calls := 0
			got := Get(r, 5, func(r *Reader) int {
				calls++
				if calls == bad+1 {
					refuse(r)
				}
				return calls
			})
			if len(got) != 0 || calls != bad+1 || r.Done() != api.ErrCode {
				t.Errorf("%s at item %d: %v by %d calls, %d", name, bad, got, calls, r.Done())
			}
		}
	}
}

// P9.3: items that have lists of their own.
func TestListsOfLists(t *testing.T) {
	lists := [][]uint16{{1, 2, 3}, {}, {65535}}
	w := NewWriter(20)
	Put(w, lists, func(w *Writer, l []uint16) {
		w.Uint(1, uint64(len(l)))
		Put(w, l, func(w *Writer, x uint16) { w.Uint(2, uint64(x)) })
	})
	read := func(b []byte) ([][]uint16, api.Errno) {
		r := NewReader(b)
		got := Get(r, 3, func(r *Reader) []uint16 {
			return Get(r, int(r.Uint(1)), func(r *Reader) uint16 { return uint16(r.Uint(2)) })
		})
		return got, r.Done()
	}
	b := doneOf(t, w)
	if got, e := read(b); e != api.OK || !slices.EqualFunc(got, lists, slices.Equal) {
		t.Errorf("%v, %d", got, e)
	}
	b[7] = 12 // the second list's count: more than there is
	if got, e := read(b); e != api.ErrCode || len(got) != 0 {
		t.Errorf("a list that is too long: %v, %d", got, e)
	}
}

// R1: without a function nothing is handed about.
func TestNoFunction(t *testing.T) {
	w := NewWriter(4)
	Put(w, []int{1, 2}, nil)
	if b, e := w.Done(); e != api.OK || w.Left() != 4 || len(b) != 4 {
		t.Errorf("Put: %x, %d", b, e)
	}
	r := NewReader(make([]byte, 4))
	if got := Get[int](r, 2, nil); len(got) != 0 || r.Left() != 4 || r.Done() != api.OK {
		t.Errorf("Get: %v, %d left, %d", got, r.Left(), r.Done())
	}
	if got := Get[int](r, 5, nil); len(got) != 0 || r.Done() != api.ErrCode {
		t.Errorf("Get of too many: %v, %d", got, r.Done())
	}
}

// R6: what a function panics with comes out.
func TestFunctionsPanic(t *testing.T) {
	for name, call := range map[string]func(){
		"Put": func() { Put(NewWriter(4), []int{1}, func(*Writer, int) { panic("mine") }) },
		"Get": func() { Get(NewReader([]byte{1}), 1, func(*Reader) int { panic("mine") }) },
	} {
		func() {
			defer func() {
				if x := recover(); x != "mine" {
					t.Errorf("%s: %v", name, x)
				}
			}()
			call()
		}()
	}
}

// P9.3
func TestNilWriter(t *testing.T) {
	var w *Writer
	for _, n := range append([]int{0, 1, 2, 3, 4, 8}, counts...) {
		w.Uint(n, 7)
		w.Skip(n)
	}
	w.Bytes(nil)
	w.Bytes([]byte("abc"))
	Put(w, []int{1, 2}, func(*Writer, int) { t.Error("put is called") })
	Put(w, []int{1, 2}, nil)
	if b, e := w.Done(); len(b) != 0 || e != api.ErrClosed || w.Left() != 0 {
		t.Errorf("%x, %d, %d left", b, e, w.Left())
	}
}

// P9.3
func TestNilReader(t *testing.T) {
	var r *Reader
	for _, n := range append([]int{0, 1, 2, 3, 4, 8}, counts...) {
		got := Get(r, n, func(*Reader) int { t.Error("get is called"); return 1 })
		if x, b := r.Uint(n), r.Bytes(n); x != 0 || len(b) != 0 || len(got) != 0 {
			t.Errorf("%d: Uint %d, Bytes %x, Get %v", n, x, b, got)
		}
		r.Zeros(n)
	}
	if r.Left() != 0 || r.Done() != api.ErrClosed {
		t.Errorf("%d left, %d", r.Left(), r.Done())
	}
}

// P9.5: what was written is read: all kinds of things, one behind the other.
func TestWrittenIsRead(t *testing.T) {
	source := sample.Source(3)
	for range 1000 {
		size := source.Below(400)
		w := NewWriter(size)
		var steps []func(r *Reader) bool
		for range source.Below(30) {
			step, need := anyStep(&source)
			if need > w.Left() {
				break
			}
			steps = append(steps, step(w))
		}
		left := w.Left()
		r := NewReader(doneOf(t, w))
		for i, same := range steps {
			if !same(r) {
				t.Fatalf("step %d of %d: something else is read", i, len(steps))
			}
		}
		if r.Left() != left || r.Done() != api.OK {
			t.Fatalf("%d left, %d were; %d", r.Left(), left, r.Done())
		}
	}
}

// anyStep is something to write that then tells whether it is read, and how many bytes it needs.
func anyStep(source *sample.Source) (func(w *Writer) func(r *Reader) bool, int) {
	switch source.Below(4) {
	case 0:
		n := widths[source.Below(4)]
		x := anyNumber(source) >> (64 - 8*n)
		return func(w *Writer) func(r *Reader) bool {
			w.Uint(n, x)
			return func(r *Reader) bool { return r.Uint(n) == x }
		}, n
	case 1:
		b := source.Bytes(source.Below(30))
		return func(w *Writer) func(r *Reader) bool {
			w.Bytes(b)
			return func(r *Reader) bool { return bytes.Equal(r.Bytes(len(b)), b) }
		}, len(b)
	case 2:
		n := source.Below(30)
		return func(w *Writer) func(r *Reader) bool {
			w.Skip(n)
			return func(r *Reader) bool {
				ahead := r.Left()
				r.Zeros(n)
				return r.Left() == ahead-n
			}
		}, n
	}
	l := source.Bytes(source.Below(10))
	return func(w *Writer) func(r *Reader) bool {
		Put(w, l, func(w *Writer, x byte) { w.Uint(4, uint64(x)<<20) })
		return func(r *Reader) bool {
			return slices.Equal(Get(r, len(l), func(r *Reader) byte { return byte(r.Uint(4) >> 20) }), l)
		}
	}, 4 * len(l)
}

// R3: what is handed in is neither changed nor kept, nor is the room behind its end.
func TestArgumentsAreLeftAlone(t *testing.T) {
	room := sample.Bytes(100)
	r := NewReader(room[:50])
	w := NewWriter(80)
	w.Bytes(room[:20])
	w.Uint(2, 5)
	w.Bytes(room[50:50])
	Put(w, room[50:60], func(w *Writer, x byte) { w.Uint(1, uint64(x)) })
	r.Uint(4)
	if !bytes.Equal(room, sample.Bytes(100)) {
		t.Error("they have changed")
	}
	clear(room)
	if got := r.Bytes(46); !bytes.Equal(got, sample.Bytes(100)[4:50]) {
		t.Errorf("the Reader hangs on the caller's bytes: %x", got)
	}
	want := slices.Concat(sample.Bytes(20), []byte{5, 0}, sample.Bytes(60)[50:], make([]byte, 48))
	if got := doneOf(t, w); !bytes.Equal(got, want) {
		t.Errorf("the Writer hangs on the caller's bytes: %x", got)
	}
}

// R3: answers are new memory, which shares nothing with what is written or read later.
func TestAnswersAreNew(t *testing.T) {
	for _, size := range []int{1, 20, 33, 512} {
		w := NewWriter(size)
		w.Bytes(sample.Bytes(size - size/3))
		if fault := sample.NotNew(func() []byte { return doneOf(t, w) }); fault != "" {
			t.Errorf("Done of %d bytes: %s", size, fault)
		}
		ahead := doneOf(t, w)
		kept := bytes.Clone(ahead)
		w.Bytes(bytes.Repeat([]byte{9}, w.Left()))
		if !bytes.Equal(ahead, kept) {
			t.Errorf("%d bytes: what was answered has changed", size)
		}
	}
	r := NewReader(bytes.Repeat([]byte("0123456789"), 4))
	if fault := sample.NotNew(func() []byte { return r.Bytes(10) }); fault != "" {
		t.Errorf("Bytes: %s", fault)
	}
	if b := r.Bytes(10); string(b) != "0123456789" || r.Left() != 0 {
		t.Errorf("behind answers that were changed: %q", b)
	}
	same := func() []byte {
		return Get(NewReader([]byte("abcdefghi")), 9, func(r *Reader) byte { return byte(r.Uint(1)) })
	}
	if fault := sample.NotNew(same); fault != "" {
		t.Errorf("Get: %s", fault)
	}
}

// R4: what is answered hangs on the object's own calls, whoever works beside it.
func TestManyAtOnce(t *testing.T) {
	w, r := NewWriter(64), NewReader(sample.Bytes(64))
	w.Bytes(sample.Bytes(40))
	want := doneOf(t, w)
	answers := make(chan bool)
	for i := range 8 {
		go func() {
			for range 50 {
				own := NewWriter(64)
				Put(own, []int{i, i}, func(w *Writer, x int) { w.Uint(8, uint64(x)) })
				NewReader(want).Uint(8)
			}
			b, e := w.Done()
			answers <- e == api.OK && bytes.Equal(b, want) && w.Left() == 24 && r.Left() == 64 && r.Done() == api.ErrCode
		}()
	}
	for range 8 {
		if !<-answers {
			t.Error("beside others something else is answered")
		}
	}
}
