package record

import (
	"bytes"
	"crypto/sha256"
	"encoding/binary"
	"math"
	"slices"
	"testing"

	"casket/api"
	"casket/sample"
)

// wild are numbers that no block of a disk has.
var wild = []int{math.MinInt, math.MinInt + 7, math.MinInt32, -1 << 32, -1<<32 + 5, -4096, -1, 4096, 4097, 1 << 16, 1<<31 - 1, 1 << 31, 1 << 32, 1<<32 + 5, math.MaxInt - 1, math.MaxInt}

// numbers are transactions'.
var numbers = []uint64{1, 2, 255, 256, 1 << 31, 1<<32 - 1, 1 << 32, 1<<32 + 1, 1 << 63, math.MaxUint64 - 1, math.MaxUint64}

// names are how a journal's own blocks begin.
var names = []string{"PLAN", "DONE", "MARK"}

// bodyOf begins with a text, and has bytes behind it that look like nothing.
func bodyOf(source *sample.Source, text string) []byte {
	return append([]byte(text), source.Bytes(512-len(text))...)
}

// anyBody is of many kinds, those that must be turned among them.
func anyBody(source *sample.Source) []byte {
	name := []byte(names[source.Below(3)])
	switch source.Below(6) {
	case 0:
		return bodyOf(source, string(name))
	case 1:
		name[0] ^= 0x80
		return bodyOf(source, string(name))
	case 2:
		name[source.Below(4)] ^= 1 << source.Below(8)
		return bodyOf(source, string(name))
	case 3:
		return make([]byte, 512)
	}
	return source.Bytes(512)
}

// anyRedos are count of a transaction's.
func anyRedos(source *sample.Source, count int) []api.Redo {
	var l []api.Redo
	met := map[int]bool{}
	for len(l) < count {
		n := source.Below(4096) >> source.Below(6)
		if !met[n] {
			met[n] = true
			l = append(l, api.Redo{Block: n, Bytes: anyBody(source)})
		}
	}
	return l
}

// filled is a block that begins with parts, and has zeros behind them.
func filled(parts ...[]byte) []byte {
	b := make([]byte, 512)
	copy(b, slices.Concat(parts...))
	return b
}

func wide(number uint64) []byte {
	return binary.LittleEndian.AppendUint64(nil, number)
}

// mustTurn tells whether a redo's bytes begin like a journal's block.
func mustTurn(b []byte) bool {
	return slices.Contains(names, string(b[:4]))
}

// wordedPlan is a plan as the chapter words it, whether it may be or not.
func wordedPlan(number uint64, count int, turned uint64, list ...int) []byte {
	b := slices.Concat([]byte("PLAN"), wide(number), []byte{byte(count), byte(count >> 8)}, wide(turned))
	for _, n := range list {
		b = binary.LittleEndian.AppendUint32(b, uint32(n))
	}
	return filled(b)
}

// sealed are blocks with their seal, whatever they are.
func sealed(number uint64, blocks ...[]byte) [][]byte {
	sum := sha256.Sum256(slices.Concat(blocks...))
	return append(slices.Clone(blocks), filled([]byte("DONE"), wide(number), sum[:]))
}

// wordedBlocks are a transaction's, as the chapter words them.
func wordedBlocks(number uint64, l []api.Redo) [][]byte {
	var turned uint64
	var list []int
	var bodies [][]byte
	for i, x := range l {
		b := bytes.Clone(x.Bytes)
		if mustTurn(b) {
			turned += 1 << i
			b[0] += 128
		}
		list = append(list, x.Block)
		bodies = append(bodies, b)
	}
	return sealed(number, append([][]byte{wordedPlan(number, len(l), turned, list...)}, bodies...)...)
}

func wordedMark(number uint64) []byte {
	start := append([]byte("MARK"), wide(number)...)
	sum := sha256.Sum256(start)
	return filled(start, sum[:])
}

// wordedMay tells whether there is a transaction of such redos.
func wordedMay(number uint64, l []api.Redo) bool {
	if number == 0 || len(l) < 1 || len(l) > 64 {
		return false
	}
	for i, x := range l {
		for _, y := range l[:i] {
			if x.Block == y.Block {
				return false
			}
		}
		if x.Block < 0 || x.Block > 4095 || len(x.Bytes) != 512 {
			return false
		}
	}
	return true
}

func sameRedos(a, b []api.Redo) bool {
	return slices.EqualFunc(a, b, func(x, y api.Redo) bool { return x.Block == y.Block && bytes.Equal(x.Bytes, y.Bytes) })
}

func sameBlocks(a, b [][]byte) bool {
	return slices.EqualFunc(a, b, bytes.Equal)
}

// cloned are the same blocks in other memory.
func cloned(blocks [][]byte) [][]byte {
	var list [][]byte
	for _, b := range blocks {
		list = append(list, bytes.Clone(b))
	}
	return list
}

// makes holds what Blocks answers against the words.
func makes(t *testing.T, number uint64, l []api.Redo) {
	t.Helper()
	blocks, e := Blocks(number, l)
	if !wordedMay(number, l) {
		if len(blocks) != 0 || e != api.ErrArg {
			t.Errorf("%d redos of %d are no transaction: %d blocks, %d", len(l), number, len(blocks), e)
		}
		return
	}
	if e != api.OK || !sameBlocks(blocks, wordedBlocks(number, l)) {
		t.Errorf("%d redos of %d: %d blocks, %d", len(l), number, len(blocks), e)
	}
}

// refuses asks that Parse finds no transaction.
func refuses(t *testing.T, what string, number uint64, blocks [][]byte) {
	t.Helper()
	if l, n, e := Parse(number, blocks); len(l) != 0 || n != 0 || e != api.ErrFormat {
		t.Errorf("%s: %d redos, %d, %d", what, len(l), n, e)
	}
}

// finds asks that Parse finds these redos.
func finds(t *testing.T, what string, number uint64, blocks [][]byte, want []api.Redo) {
	t.Helper()
	if l, n, e := Parse(number, blocks); !sameRedos(l, want) || n != len(want)+2 || e != api.OK {
		t.Errorf("%s: %d redos, %d, %d", what, len(l), n, e)
	}
}

// noPlan asks that b is none.
func noPlan(t *testing.T, what string, b []byte) {
	t.Helper()
	if number, list, e := Plan(b); number != 0 || len(list) != 0 || e != api.ErrFormat {
		t.Errorf("%s: %d, %v, %d", what, number, list, e)
	}
}

// P13.1: the chapter's example.
func TestExample(t *testing.T) {
	blocks, e := Blocks(1, []api.Redo{{Block: 0, Bytes: make([]byte, 512)}})
	if len(blocks) != 3 || e != api.OK {
		t.Errorf("one redo: %d blocks, %d", len(blocks), e)
	}
}

// P13.1: where the parts of the blocks are.
func TestWhereThePartsAre(t *testing.T) {
	body, turned := bytes.Repeat([]byte{7}, 512), bodyOf(new(sample.Source), "MARK")
	blocks, e := Blocks(0x0102030405060708, []api.Redo{{Block: 0x0908, Bytes: body}, {Block: 3, Bytes: turned}})
	if e != api.OK || len(blocks) != 4 {
		t.Fatal(len(blocks), e)
	}
	plan := append([]byte("PLAN"), 8, 7, 6, 5, 4, 3, 2, 1, 2, 0, 2, 0, 0, 0, 0, 0, 0, 0, 8, 9, 0, 0, 3, 0, 0, 0)
	if !bytes.Equal(blocks[0], filled(plan)) {
		t.Errorf("the plan: %x", blocks[0])
	}
	if !bytes.Equal(blocks[1], body) || !bytes.Equal(blocks[2], append([]byte{'M' + 128}, turned[1:]...)) {
		t.Errorf("the redos: %x, %x", blocks[1], blocks[2])
	}
	sum := sha256.Sum256(slices.Concat(blocks[:3]...))
	if !bytes.Equal(blocks[3], filled([]byte("DONE"), []byte{8, 7, 6, 5, 4, 3, 2, 1}, sum[:])) {
		t.Errorf("the seal: %x", blocks[3])
	}
}

// P13.1, P13.3: as many redos as there may be, and one more; each number of a transaction, and none.
func TestHowMany(t *testing.T) {
	source := sample.Source(1)
	for count := range 70 {
		l := anyRedos(&source, count)
		number := numbers[count%len(numbers)]
		makes(t, number, l)
		makes(t, 0, l)
		if count > 0 && count <= 64 {
			finds(t, "what was written", number, wordedBlocks(number, l), l)
		}
	}
	for _, number := range numbers {
		l := anyRedos(&source, 3)
		makes(t, number, l)
		finds(t, "what was written", number, wordedBlocks(number, l), l)
	}
	makes(t, 1, nil)
	makes(t, 1, anyRedos(&source, 1000))
	makes(t, 1, make([]api.Redo, 1))
	makes(t, 1, make([]api.Redo, 64))
	makes(t, 1, make([]api.Redo, 100))
}

// P13.1: blocks that no disk has, at each place.
func TestWildBlocks(t *testing.T) {
	source := sample.Source(2)
	for _, count := range []int{1, 2, 5, 64} {
		l := anyRedos(&source, count)
		for i := range l {
			kept := l[i].Block
			for _, n := range wild {
				l[i].Block = n
				makes(t, 9, l)
			}
			l[i].Block = kept
		}
		makes(t, 9, l)
	}
	for _, n := range []int{0, 1, 255, 256, 4094, 4095} {
		makes(t, 9, []api.Redo{{Block: n, Bytes: source.Bytes(512)}})
	}
}

// P13.1: a block that is there twice, at each two places.
func TestTwice(t *testing.T) {
	source := sample.Source(3)
	for _, count := range []int{2, 3, 20, 64} {
		l := anyRedos(&source, count)
		for i := range l {
			for k := range i {
				kept := l[i].Block
				l[i].Block = l[k].Block
				if blocks, e := Blocks(4, l); len(blocks) != 0 || e != api.ErrArg {
					t.Errorf("redos %d and %d of %d are of one block: %d", k, i, count, e)
				}
				l[i].Block = kept
			}
		}
	}
}

// P13.1: bytes that are no block's, at each place.
func TestOddBytes(t *testing.T) {
	source := sample.Source(4)
	for _, count := range []int{1, 2, 64} {
		l := anyRedos(&source, count)
		for i := range l {
			kept := l[i].Bytes
			for _, size := range []int{0, 1, 3, 4, 5, 16, 511, 513, 1024} {
				for _, text := range []string{"PLAN", "xxxx"} {
					l[i].Bytes = append([]byte(text), make([]byte, 1024)...)[:size]
					makes(t, 4, l)
				}
			}
			l[i].Bytes = kept
		}
	}
}

// P13.1, P13.2: each name, at each place, and what is like a name but is none.
func TestTurned(t *testing.T) {
	source := sample.Source(5)
	for _, name := range names {
		for i := range 64 {
			l := anyRedos(&source, 64)
			l[i].Bytes = bodyOf(&source, name)
			makes(t, 6, l)
			finds(t, name, 6, wordedBlocks(6, l), l)
		}
		for bit := range 32 {
			like := []byte(name)
			like[bit/8] ^= 1 << (bit % 8)
			l := []api.Redo{{Block: 1, Bytes: bodyOf(&source, string(like))}}
			blocks, e := Blocks(6, l)
			if e != api.OK || !bytes.Equal(blocks[1], l[0].Bytes) || blocks[0][14] != 0 {
				t.Errorf("%q is like %q, and was turned: %d", like, name, e)
			}
			finds(t, string(like), 6, blocks, l)
		}
	}
	all := anyRedos(&source, 64)
	for i := range all {
		all[i].Bytes = bodyOf(&source, names[i%3])
	}
	makes(t, 6, all)
	finds(t, "all are turned", 6, wordedBlocks(6, all), all)
}

// P13.1: no redo stands in the journal so that it could be taken for a plan, a seal, a mark.
func TestNoRedoIsTakenForMore(t *testing.T) {
	source := sample.Source(6)
	inner := wordedBlocks(8, anyRedos(&source, 3))
	l := []api.Redo{{Block: 1, Bytes: inner[0]}, {Block: 2, Bytes: inner[4]}, {Block: 3, Bytes: wordedMark(8)}}
	blocks, e := Blocks(7, l)
	if e != api.OK {
		t.Fatal(e)
	}
	for i, b := range blocks[1:4] {
		noPlan(t, "a redo", b)
		if _, e := ReadMark(b); e != api.ErrFormat || mustTurn(b) {
			t.Errorf("redo %d stands as %q", i, b[:4])
		}
		refuses(t, "from a redo on", 8, blocks[1+i:])
	}
}

// P13.2: of other numbers there is no transaction.
func TestOtherNumbers(t *testing.T) {
	source := sample.Source(7)
	l := anyRedos(&source, 2)
	for _, number := range numbers {
		blocks := wordedBlocks(number, l)
		for _, other := range append([]uint64{0, number - 1, number + 1, number ^ 1<<32, number ^ 1<<63}, numbers...) {
			if other != number {
				refuses(t, "another number", other, blocks)
			}
		}
	}
	refuses(t, "0", 0, wordedBlocks(0, l))
	mixed := wordedBlocks(5, l)
	mixed[3] = wordedBlocks(6, l)[3]
	refuses(t, "another one's seal", 5, mixed)
	refuses(t, "another one's plan", 6, mixed)
	relabelled := wordedBlocks(5, l)[:3]
	refuses(t, "a seal of another number, with the right sum", 5, sealed(6, relabelled...))
}

// P13.3: of fewer blocks nothing is parsed; whatever stands behind, the same.
func TestFewerAndMore(t *testing.T) {
	source := sample.Source(8)
	refuses(t, "nothing", 3, nil)
	for _, count := range []int{1, 2, 30, 64} {
		l := anyRedos(&source, count)
		blocks := wordedBlocks(3, l)
		for n := range blocks {
			refuses(t, "fewer blocks", 3, blocks[:n:n])
			refuses(t, "fewer, with more room behind", 3, blocks[:n])
			refuses(t, "without the first", 3, blocks[n+1:])
		}
		for _, behind := range [][]byte{nil, {}, {1}, make([]byte, 512), blocks[0], blocks[count+1], source.Bytes(2000)} {
			finds(t, "more behind", 3, append(cloned(blocks), behind, behind), l)
		}
		finds(t, "the same behind", 3, append(cloned(blocks), blocks...), l)
	}
}

// P13.2: a bit of any block that is another one.
func TestBits(t *testing.T) {
	source := sample.Source(9)
	l := []api.Redo{{Block: 5, Bytes: source.Bytes(512)}, {Block: 9, Bytes: bodyOf(&source, "DONE")}, {Block: 0, Bytes: make([]byte, 512)}}
	blocks := wordedBlocks(3, l)
	for i := range blocks {
		for bit := range 512 * 8 {
			blocks[i][bit/8] ^= 1 << (bit % 8)
			if l, n, e := Parse(3, blocks); len(l) != 0 || n != 0 || e != api.ErrFormat {
				t.Errorf("bit %d of block %d: %d redos, %d, %d", bit, i, len(l), n, e)
			}
			blocks[i][bit/8] ^= 1 << (bit % 8)
		}
	}
	finds(t, "as it was", 3, blocks, l)
}

// P13.2: a bit of a block that is another one, below a seal that is right: what stands there then is a transaction, or none, as the words say.
func TestBitsBelowASeal(t *testing.T) {
	source := sample.Source(10)
	l := []api.Redo{{Block: 5, Bytes: source.Bytes(512)}, {Block: 9, Bytes: bodyOf(&source, "DONE")}}
	found := 0
	for i := range 3 {
		for bit := range 512 * 8 {
			ahead := wordedBlocks(3, l)[:3]
			ahead[i][bit/8] ^= 1 << (bit % 8)
			if holdsAgainstWords(t, 3, sealed(3, ahead...)) {
				found++
			}
		}
	}
	// The 12 bits of each of the plan's two Blocks; the bit by which the second redo is turned (it stands there then as it was); all of the first redo, and all but the first 32 of the second.
	if found != 24+1+4096+4096-32 {
		t.Errorf("%d of them are transactions", found)
	}
}

// holdsAgainstWords holds Parse against the words: blocks begin with a transaction's, if those that its redos make are the same.
func holdsAgainstWords(t *testing.T, number uint64, blocks [][]byte) bool {
	t.Helper()
	want, right := wordedParse(number, blocks)
	if right {
		finds(t, "a transaction", number, blocks, want)
	} else {
		refuses(t, "no transaction", number, blocks)
	}
	return right
}

// wordedParse turns back what the plan says is turned, where that makes a name, and asks whether the blocks that come out are those.
func wordedParse(number uint64, blocks [][]byte) ([]api.Redo, bool) {
	if len(blocks) < 3 || slices.ContainsFunc(blocks, func(b []byte) bool { return len(b) != 512 }) {
		return nil, false
	}
	count := int(binary.LittleEndian.Uint16(blocks[0][12:]))
	if count > 64 || count+2 > len(blocks) {
		return nil, false
	}
	var l []api.Redo
	for i := range count {
		b := blocks[1+i]
		said := blocks[0][14+i/8]>>(i%8)&1 == 1
		if back := append([]byte{b[0] ^ 0x80}, b[1:]...); said && mustTurn(back) {
			b = back
		}
		l = append(l, api.Redo{Block: int(binary.LittleEndian.Uint32(blocks[0][22+4*i:])), Bytes: b})
	}
	return l, wordedMay(number, l) && sameBlocks(wordedBlocks(number, l), blocks[:count+2])
}

// P13.2: what is turned and must not be, or is not and must be, below a seal that is right.
func TestWronglyTurned(t *testing.T) {
	source := sample.Source(11)
	plain := source.Bytes(512)
	high := append([]byte{0x81}, plain[1:]...)
	for _, name := range names {
		body := bodyOf(&source, name)
		stands := append([]byte{name[0] | 0x80}, body[1:]...)
		parse := func(turned uint64, b []byte) [][]byte {
			return sealed(3, wordedPlan(3, 1, turned, 5), b)
		}
		finds(t, "turned", 3, parse(1, stands), []api.Redo{{Block: 5, Bytes: body}})
		finds(t, "not turned, the highest bit set", 3, parse(0, stands), []api.Redo{{Block: 5, Bytes: stands}})
		refuses(t, "a name that is not turned", 3, parse(0, body))
		refuses(t, "a name that is said to be turned, and is not", 3, parse(1, body))
		refuses(t, "no name, and turned", 3, parse(1, plain))
		refuses(t, "no name, and turned, the highest bit set", 3, parse(1, high))
		refuses(t, "one that there is not is turned", 3, parse(2, plain))
		refuses(t, "one that there is not is turned too", 3, parse(3, stands))
		refuses(t, "the last one that there might be is turned", 3, parse(1<<63, plain))
	}
}

// P13.2: blocks that are not blocks' size, below a seal that is right.
func TestOddBlocks(t *testing.T) {
	source := sample.Source(12)
	b := source.Bytes(512)
	plan := wordedPlan(3, 1, 0, 5)
	for _, size := range []int{0, 1, 4, 511, 513, 1024} {
		odd := append(bytes.Clone(b), make([]byte, 512)...)[:size]
		refuses(t, "a redo", 3, sealed(3, plan, odd))
		refuses(t, "a redo that is turned", 3, sealed(3, wordedPlan(3, 1, 1, 5), odd))
		oddPlan := append(bytes.Clone(plan), make([]byte, 512)...)[:size]
		refuses(t, "the plan", 3, sealed(3, oddPlan, b))
		whole := sealed(3, plan, b)
		whole[2] = append(bytes.Clone(whole[2]), make([]byte, 512)...)[:size]
		refuses(t, "the seal", 3, whole)
	}
	refuses(t, "nothing at all", 3, make([][]byte, 3))
}

// wrongPlans are none, each for a reason of its own.
func wrongPlans() map[string][]byte {
	many := make([]int, 65)
	for i := range many {
		many[i] = i
	}
	wrong := map[string][]byte{
		"of the number 0":              wordedPlan(0, 1, 0, 5),
		"without redos":                wordedPlan(3, 0, 0),
		"without redos, and one":       wordedPlan(3, 0, 0, 5),
		"with 65 redos":                wordedPlan(3, 65, 0, many...),
		"with 256 more than one":       wordedPlan(3, 257, 0, 5),
		"with 65535 redos":             wordedPlan(3, 65535, 0, 5),
		"a block more than it says":    wordedPlan(3, 1, 0, 5, 6),
		"a block twice":                wordedPlan(3, 2, 0, 5, 5),
		"block 0 twice":                wordedPlan(3, 2, 0, 0, 0),
		"the last twice":               wordedPlan(3, 64, 0, append(many[:63:63], 62)...),
		"block 4096":                   wordedPlan(3, 1, 0, 4096),
		"block 2^31":                   wordedPlan(3, 1, 0, 1<<31),
		"block 2^32 - 1":               wordedPlan(3, 1, 0, 1<<32-1),
		"turns what there is not":      wordedPlan(3, 1, 2, 5),
		"turns the last of 64":         wordedPlan(3, 63, 1<<63, many[:63]...),
		"turns all of 64":              wordedPlan(3, 63, math.MaxUint64, many[:63]...),
		"something in the last byte":   append(wordedPlan(3, 1, 0, 5)[:511], 1),
		"something behind the longest": append(wordedPlan(3, 64, 0, many[:64]...)[:278], append([]byte{1}, make([]byte, 233)...)...),
		"a seal":                       append([]byte("DONE"), wordedPlan(3, 1, 0, 5)[4:]...),
		"a mark":                       wordedMark(3),
		"zeros":                        make([]byte, 512),
	}
	return wrong
}

// P13.1, P13.2: what is no plan, alone and with all that would stand behind it.
func TestWrongPlans(t *testing.T) {
	source := sample.Source(13)
	for what, b := range wrongPlans() {
		noPlan(t, what, b)
		for _, count := range []int{0, 1, 2, 63, 64, 65, 257} {
			blocks := [][]byte{b}
			for range count {
				blocks = append(blocks, source.Bytes(512))
			}
			refuses(t, what, 3, sealed(3, blocks...))
			refuses(t, what, 0, sealed(0, blocks...))
		}
	}
}

// P13.1: what a plan says.
func TestPlan(t *testing.T) {
	source := sample.Source(14)
	for count := 1; count <= 64; count++ {
		for _, number := range numbers {
			var list []int
			l := anyRedos(&source, count)
			for _, x := range l {
				list = append(list, x.Block)
			}
			n, got, e := Plan(wordedBlocks(number, l)[0])
			if n != number || !slices.Equal(got, list) || e != api.OK {
				t.Errorf("%d redos of %d: %d, %v, %d", count, number, n, got, e)
			}
		}
	}
	all := wordedPlan(3, 1, 1, 4095)
	if n, list, e := Plan(all); n != 3 || !slices.Equal(list, []int{4095}) || e != api.OK {
		t.Errorf("one that is turned: %d, %v, %d", n, list, e)
	}
	for size := range 1100 {
		if size != 512 {
			noPlan(t, "another length", append(bytes.Clone(all), make([]byte, 600)...)[:size])
		}
	}
	noPlan(t, "nothing", nil)
}

// P13.1: bit by bit, a plan or none.
func TestPlanBits(t *testing.T) {
	b := wordedPlan(3, 2, 1, 5, 9)
	right := 0
	for bit := range 512 * 8 {
		b[bit/8] ^= 1 << (bit % 8)
		number := binary.LittleEndian.Uint64(b[4:])
		blocks := []int{int(binary.LittleEndian.Uint32(b[22:])), int(binary.LittleEndian.Uint32(b[26:]))}
		if bit == 96 { // 3 redos, the last one of block 0
			blocks = append(blocks, 0)
		}
		want := bit >= 32 && bit < 97 || bit == 112 || bit == 113 || bit >= 176 && bit < 188 || bit >= 208 && bit < 220
		if n, list, e := Plan(b); want && (n != number || !slices.Equal(list, blocks) || e != api.OK) {
			t.Errorf("bit %d: %d, %v, %d", bit, n, list, e)
		} else if want {
			right++
		} else {
			noPlan(t, "a bit", b)
		}
		b[bit/8] ^= 1 << (bit % 8)
	}
	if right != 64+1+2+24 {
		t.Errorf("%d plans", right)
	}
}

// P13.1: marks.
func TestMarks(t *testing.T) {
	if b, e := Mark(0); len(b) != 0 || e != api.ErrArg {
		t.Errorf("0: %x, %d", b, e)
	}
	source := sample.Source(15)
	for range 100 {
		numbers := append(slices.Clone(numbers), binary.LittleEndian.Uint64(source.Bytes(8))>>source.Below(60)|1)
		for _, number := range numbers {
			b, e := Mark(number)
			if e != api.OK || !bytes.Equal(b, wordedMark(number)) {
				t.Errorf("the mark %d: %x, %d", number, b, e)
			}
			if n, e := ReadMark(b); n != number || e != api.OK {
				t.Errorf("the mark %d: %d, %d", number, n, e)
			}
		}
	}
}

// P13.1: what is no mark.
func TestNoMarks(t *testing.T) {
	no := func(what string, b []byte) {
		t.Helper()
		if n, e := ReadMark(b); n != 0 || e != api.ErrFormat {
			t.Errorf("%s: %d, %d", what, n, e)
		}
	}
	source := sample.Source(16)
	no("nothing", nil)
	no("zeros", make([]byte, 512))
	no("0, with the right sum", wordedMark(0))
	no("a plan", wordedPlan(3, 1, 0, 5))
	no("a seal", wordedBlocks(3, anyRedos(&source, 1))[2])
	no("bytes", source.Bytes(512))
	seal := append([]byte("DONE"), wide(3)...)
	sum := sha256.Sum256(seal)
	no("a seal's name, with the right sum", filled(seal, sum[:]))
	b := wordedMark(77)
	for size := range 1100 {
		if size != 512 {
			no("another length", append(bytes.Clone(b), make([]byte, 600)...)[:size])
		}
	}
	for bit := range 512 * 8 {
		b[bit/8] ^= 1 << (bit % 8)
		no("a bit", b)
		b[bit/8] ^= 1 << (bit % 8)
	}
}

// P13.1 to P13.3: any redos, written and read; and with something changed below a right seal.
func TestAnyTransactions(t *testing.T) {
	source := sample.Source(17)
	for range 400 {
		number := 1 + binary.LittleEndian.Uint64(source.Bytes(8))>>1>>source.Below(60)
		l := anyRedos(&source, 1+source.Below(64)>>source.Below(6))
		makes(t, number, l)
		blocks := wordedBlocks(number, l)
		finds(t, "what was written", number, append(cloned(blocks), source.Bytes(512)), l)
		ahead := cloned(blocks[:len(blocks)-1])
		for range 1 + source.Below(3) {
			ahead[source.Below(len(ahead))][source.Below(30)] ^= 1 << source.Below(8)
		}
		holdsAgainstWords(t, number, sealed(number, ahead...))
	}
}

// spread is a list with room behind it, and what is in that room.
func spread(l []api.Redo) ([]api.Redo, func() bool) {
	var list []api.Redo
	var whole [][]byte
	for _, x := range l {
		room := append(bytes.Clone(x.Bytes), 1, 2, 3)
		whole = append(whole, room)
		list = append(list, api.Redo{Block: x.Block, Bytes: room[:len(x.Bytes)]})
	}
	behind := api.Redo{Block: 77}
	list = append(list, behind)
	return list[:len(l)], func() bool {
		same := list[len(l)].Block == 77 && list[len(l)].Bytes == nil
		for i, room := range whole {
			same = same && list[i].Block == l[i].Block && bytes.Equal(room, append(bytes.Clone(l[i].Bytes), 1, 2, 3)) && &list[i].Bytes[0] == &room[0]
		}
		return same
	}
}

// R3: what is handed in is left alone, and the room behind it too.
func TestArgumentsAreLeftAlone(t *testing.T) {
	source := sample.Source(18)
	l := anyRedos(&source, 20)
	l[3].Bytes = bodyOf(&source, "PLAN")
	list, same := spread(l)
	blocks, _ := Blocks(3, list)
	if !same() {
		t.Error("Blocks changed its redos")
	}
	var handed [][]byte
	for _, b := range blocks {
		handed = append(handed, append(bytes.Clone(b), 1, 2, 3)[:512])
	}
	handed = append(handed, []byte("behind"))[:len(blocks)]
	mark := append(wordedMark(9), 1, 2, 3)[:512]
	Parse(3, handed)
	Plan(handed[0])
	ReadMark(mark)
	if !sameBlocks(handed, blocks) || !bytes.Equal(mark, wordedMark(9)) || !bytes.Equal(mark[512:515], []byte{1, 2, 3}) || string(handed[:len(blocks)+1][len(blocks)]) != "behind" {
		t.Error("Parse, Plan or ReadMark changed its blocks")
	}
	for i, b := range handed {
		if !bytes.Equal(b[512:515], []byte{1, 2, 3}) {
			t.Errorf("the room behind block %d was changed", i)
		}
	}
}

// R3: answers are new memory, and share nothing.
func TestAnswersAreNew(t *testing.T) {
	source := sample.Source(19)
	l := anyRedos(&source, 5)
	l[2].Bytes = bodyOf(&source, "MARK")
	blocks, want := wordedBlocks(3, l), cloned(wordedBlocks(3, l))
	for i := range want {
		if wrong := sample.NotNew(func() []byte { b, _ := Blocks(3, l); return b[i] }); wrong != "" {
			t.Errorf("Blocks, %d: %s", i, wrong)
		}
	}
	for i := range l {
		if wrong := sample.NotNew(func() []byte { m, _, _ := Parse(3, blocks); return m[i].Bytes }); wrong != "" {
			t.Errorf("Parse, %d: %s", i, wrong)
		}
	}
	if wrong := sample.NotNew(func() []byte { b, _ := Mark(3); return b }); wrong != "" {
		t.Errorf("Mark: %s", wrong)
	}
	made, _ := Blocks(3, l)
	parsed, _, _ := Parse(3, made)
	_, list, _ := Plan(made[0])
	for i, b := range made {
		clear(b[:cap(b)])
		if i > 0 && !sameBlocks(made[i+1:], want[i+1:]) {
			t.Errorf("block %d shares memory with others", i)
		}
	}
	if !sameRedos(parsed, l) || !sameBlocks(blocks, want) {
		t.Error("Blocks and Parse share memory")
	}
	for i, x := range parsed {
		clear(x.Bytes[:cap(x.Bytes)])
		if !sameRedos(parsed[i+1:], l[i+1:]) {
			t.Errorf("redo %d shares memory with others", i)
		}
	}
	if slices.ContainsFunc(list[len(list):cap(list)], func(n int) bool { return n != 0 }) {
		t.Error("numbers are in the room behind the Blocks of a plan")
	}
	if !sameBlocks(wordedBlocks(3, l), want) {
		t.Error("what was handed in was changed")
	}
}
