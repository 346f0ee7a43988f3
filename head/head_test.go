package head

import (
	"bytes"
	"crypto/sha256"
	"encoding/binary"
	"encoding/hex"
	"math"
	"slices"
	"testing"

	"casket/api"
	"casket/sample"
)

// wild are numbers that are right for nothing in a header, some of them in their lowest bytes.
var wild = []int{math.MinInt, math.MinInt + 1, math.MinInt32, -1<<32 + 1, -1 << 16, -256, -2, -1, 0, 1<<16 + 16, 1 << 31, 1 << 32, 1<<32 + 1, 1<<32 + 16, 1<<40 + 20, math.MaxInt - 9, math.MaxInt - 1, math.MaxInt}

// usual is a header that may be, no two of whose numbers are the same.
func usual() api.Head {
	return api.Head{Generation: 0x0123456789abcdef, Sectors: 0x3a1, Slots: 6, Journal: 0xf7, Segment: 11, Params: api.Params{Time: 3, Memory: 0xe9, Lanes: 2}, Name: [16]byte([]byte("sixteen letters."))}
}

// small is the smallest header in every number.
func small() api.Head {
	return api.Head{Generation: 1, Sectors: 1, Slots: 1, Journal: 16, Segment: 1, Params: api.Params{Time: 1, Memory: 8, Lanes: 1}}
}

// great is the greatest header in every number.
func great() api.Head {
	return api.Head{Generation: math.MaxUint64, Sectors: 1024, Slots: 8, Journal: 256, Segment: 16, Params: api.Params{Time: 8, Memory: 256, Lanes: 4}, Name: [16]byte(bytes.Repeat([]byte{255}, 16))}
}

// anyHead is a header that may be.
func anyHead(source *sample.Source) api.Head {
	h := api.Head{Generation: binary.LittleEndian.Uint64(source.Bytes(8))>>source.Below(64) | 1, Sectors: 1 + source.Below(1024), Slots: 1 + source.Below(8), Segment: 1 + source.Below(16)}
	least := max(16, h.Segment+10)
	h.Journal = least + source.Below(257-least)
	h.Params.Time, h.Params.Lanes = 1+source.Below(8), 1+source.Below(4)
	h.Params.Memory = 8*h.Params.Lanes + source.Below(257-8*h.Params.Lanes)
	h.Name = [16]byte(source.Bytes(16))
	return h
}

// wordedMay tells whether a header may be, as the chapters word it.
func wordedMay(h api.Head) bool {
	p := h.Params
	switch {
	case h.Generation < 1,
		h.Sectors < 1, h.Sectors > 1024,
		h.Slots < 1, h.Slots > 8,
		h.Journal < 16, h.Journal > 256,
		h.Segment < 1, h.Segment > 16,
		h.Journal-h.Segment < 10,
		p.Time < 1, p.Time > 8,
		p.Lanes < 1, p.Lanes > 4,
		p.Memory < 8*p.Lanes, p.Memory > 256:
		return false
	}
	return true
}

// sealed is a block of bytes that are at most 480, with zeros and the digest behind them.
func sealed(b []byte) []byte {
	block := make([]byte, 480, 512)
	copy(block, b)
	digest := sha256.Sum256(block)
	return append(block, digest[:]...)
}

// wordedBlock is a header's block, as the chapter words it, whether the header may be or not.
func wordedBlock(h api.Head) []byte {
	b := []byte("CASKET01")
	b = binary.LittleEndian.AppendUint64(b, h.Generation)
	b = binary.LittleEndian.AppendUint32(b, uint32(h.Sectors))
	b = append(b, byte(h.Slots))
	b = binary.LittleEndian.AppendUint16(b, uint16(h.Journal))
	b = append(b, byte(h.Segment), byte(h.Params.Time))
	b = binary.LittleEndian.AppendUint16(b, uint16(h.Params.Memory))
	b = append(b, byte(h.Params.Lanes))
	return sealed(append(b, h.Name[:]...))
}

// wordedHead is what a block says, and whether it is a header's.
func wordedHead(b []byte) (api.Head, bool) {
	if len(b) != 512 {
		return api.Head{}, false
	}
	h := api.Head{
		Generation: binary.LittleEndian.Uint64(b[8:]), Sectors: int(binary.LittleEndian.Uint32(b[16:])),
		Slots: int(b[20]), Journal: int(binary.LittleEndian.Uint16(b[21:])), Segment: int(b[23]),
		Params: api.Params{Time: int(b[24]), Memory: int(binary.LittleEndian.Uint16(b[25:])), Lanes: int(b[27])},
		Name:   [16]byte(b[28:]),
	}
	if !wordedMay(h) || !bytes.Equal(b, wordedBlock(h)) {
		return api.Head{}, false
	}
	return h, true
}

// wordedLayout counts the blocks of a header's volume one by one.
func wordedLayout(h api.Head) api.Layout {
	var parts []string
	add := func(name string, count int) {
		parts = append(parts, slices.Repeat([]string{name}, count)...)
	}
	tags, levels := 0, []int(nil)
	for tags*8 < h.Sectors {
		tags++
	}
	add("head", 2)
	add("slots", h.Slots)
	add("keys", 1)
	add("root", 1)
	add("journal", h.Journal)
	for below := tags; len(levels) == 0 || below > 1; below = levels[len(levels)-1] {
		blocks := 0
		for blocks*16 < below {
			blocks++
		}
		levels = append(levels, blocks)
		add("tree", blocks)
	}
	add("tags", tags)
	add("data", h.Sectors)
	at := func(name string) int { return slices.Index(parts, name) }
	return api.Layout{Slots: at("slots"), Keys: at("keys"), Root: at("root"), Journal: at("journal"), Tree: at("tree"), Levels: levels, Tags: at("tags"), Data: at("data"), Blocks: len(parts)}
}

func sameLayout(a, b api.Layout) bool {
	same := slices.Equal(a.Levels, b.Levels)
	same = same && a.Slots == b.Slots && a.Keys == b.Keys && a.Root == b.Root && a.Journal == b.Journal
	return same && a.Tree == b.Tree && a.Tags == b.Tags && a.Data == b.Data && a.Blocks == b.Blocks
}

func blockOf(t *testing.T, h api.Head) []byte {
	t.Helper()
	b, e := Encode(h)
	if e != api.OK || len(b) != 512 {
		t.Fatalf("Encode(%+v): %d bytes, %d", h, len(b), e)
	}
	return b
}

func layoutOf(t *testing.T, h api.Head) api.Layout {
	t.Helper()
	l, e := Layout(h)
	if e != api.OK {
		t.Fatalf("Layout(%+v): %d", h, e)
	}
	return l
}

// mayBe holds what all calls say of a header against the words.
func mayBe(t *testing.T, h api.Head) bool {
	t.Helper()
	want, e := wordedMay(h), Check(h)
	b, f := Encode(h)
	l, g := Layout(h)
	if want {
		if e != api.OK || f != api.OK || g != api.OK || !bytes.Equal(b, wordedBlock(h)) {
			t.Errorf("%+v: Check %d, Encode %x, %d, Layout %d", h, e, b, f, g)
		}
	} else if e != api.ErrArg || len(b) != 0 || f != api.ErrArg || !sameLayout(l, api.Layout{}) || g != api.ErrArg {
		t.Errorf("%+v may not be: Check %d, Encode %x, %d, Layout %v, %d", h, e, b, f, l, g)
	}
	return want
}

// decodes holds what Decode says of a block against the words.
func decodes(t *testing.T, b []byte) bool {
	t.Helper()
	want, right := wordedHead(b)
	wantE := api.OK
	if !right {
		wantE = api.ErrFormat
	}
	if h, e := Decode(b); h != want || e != wantE {
		t.Errorf("Decode(%x): %+v, %d, not %+v, %d", b, h, e, want, wantE)
	}
	return right
}

// P11.1: a block, byte by byte.
func TestBlock(t *testing.T) {
	want, _ := hex.DecodeString("4341534b45543031" + "efcdab8967452301" + "a1030000" + "06" + "f700" + "0b" + "03" + "e900" + "02" + "7369787465656e206c6574746572732e")
	b := blockOf(t, usual())
	if !bytes.Equal(b[:44], want) || !bytes.Equal(b[44:480], make([]byte, 436)) {
		t.Errorf("%x", b[:480])
	}
	if digest := sha256.Sum256(b[:480]); !bytes.Equal(b[480:], digest[:]) {
		t.Errorf("the digest: %x, not %x", b[480:], digest)
	}
	if h, e := Decode(b); h != usual() || e != api.OK {
		t.Errorf("decoded: %+v, %d", h, e)
	}
}

// fields are ways to set each of a header's numbers.
func fields() map[string]func(h *api.Head, x int) {
	return map[string]func(h *api.Head, x int){
		"Sectors": func(h *api.Head, x int) { h.Sectors = x },
		"Slots":   func(h *api.Head, x int) { h.Slots = x },
		"Journal": func(h *api.Head, x int) { h.Journal = x },
		"Segment": func(h *api.Head, x int) { h.Segment = x },
		"Time":    func(h *api.Head, x int) { h.Params.Time = x },
		"Memory":  func(h *api.Head, x int) { h.Params.Memory = x },
		"Lanes":   func(h *api.Head, x int) { h.Params.Lanes = x },
	}
}

// P11.1, P11.2: each number by itself, from below its limits to beyond them, with the others usual, smallest and greatest.
func TestEachNumber(t *testing.T) {
	right := map[string]int{"Sectors": 3 * 1024, "Slots": 3 * 8, "Journal": 236 + 241 + 231, "Segment": 3*16 - 10, "Time": 3 * 8, "Memory": 241 + 249 + 225, "Lanes": 4 + 1 + 4}
	for name, set := range fields() {
		count := 0
		for _, h := range []api.Head{usual(), small(), great()} {
			for x := -20; x < 1100; x++ {
				set(&h, x)
				if mayBe(t, h) {
					count++
				}
			}
			for _, x := range wild {
				set(&h, x)
				if mayBe(t, h) {
					t.Errorf("%s may be %d", name, x)
				}
			}
		}
		if count != right[name] {
			t.Errorf("%s: %d may be, not %d", name, count, right[name])
		}
	}
}

// P11.1, P11.2: the least generation is 1; there is no greatest one.
func TestGenerations(t *testing.T) {
	for _, x := range []uint64{0, 1, 2, 1<<32 - 1, 1 << 32, 1<<63 - 1, 1 << 63, math.MaxUint64} {
		h := usual()
		h.Generation = x
		if mayBe(t, h) != (x != 0) {
			t.Errorf("the generation %d", x)
		}
	}
}

// P11.1, P11.2: a journal has ten blocks more than a segment has sectors.
func TestJournalsAndSegments(t *testing.T) {
	for segment := range 18 {
		for journal := range 259 {
			h := usual()
			h.Segment, h.Journal = segment, journal
			if mayBe(t, h) != (segment >= 1 && segment <= 16 && journal >= 16 && journal >= segment+10 && journal <= 256) {
				t.Errorf("a segment of %d, a journal of %d", segment, journal)
			}
		}
	}
	for _, segment := range wild {
		for _, journal := range wild {
			h := usual()
			h.Segment, h.Journal = segment, journal
			mayBe(t, h)
		}
	}
}

// P11.1: headers of all kinds, of which many may not be.
func TestHeadersAsWorded(t *testing.T) {
	source, right := sample.Source(1), 0
	for range 3000 {
		h := anyHead(&source)
		for _, set := range fields() {
			if source.Below(12) == 0 {
				set(&h, source.Below(300)-2)
			}
		}
		if mayBe(t, h) {
			right++
		}
	}
	if right < 1000 || right > 2700 {
		t.Errorf("%d of 3000 may be", right)
	}
}

// P11.1: blocks of other lengths are none, whatever they begin or end with.
func TestOtherLengths(t *testing.T) {
	b := blockOf(t, usual())
	for size := range 600 {
		cut := append(bytes.Clone(b), make([]byte, 88)...)[:size]
		if decodes(t, cut) != (size == 512) {
			t.Errorf("%d bytes", size)
		}
	}
	for _, x := range [][]byte{nil, {}, b[1:], append([]byte{0}, b...), append(bytes.Clone(b), b...), b[:512:512]} {
		decodes(t, x)
	}
}

// P11.1: a bit that is turned, wherever it is.
func TestEachBit(t *testing.T) {
	for _, h := range []api.Head{usual(), small()} {
		b := blockOf(t, h)
		for bit := range 512 * 8 {
			b[bit/8] ^= 1 << (bit % 8)
			if got, e := Decode(b); got != (api.Head{}) || e != api.ErrFormat {
				t.Errorf("bit %d is turned: %+v, %d", bit, got, e)
			}
			b[bit/8] ^= 1 << (bit % 8)
		}
	}
}

// P11.1: a bit that is turned under a digest that is right: the mark, the numbers and the zeros are looked at each.
func TestEachBitBelowTheDigest(t *testing.T) {
	for _, h := range []api.Head{usual(), small(), great()} {
		b, right := blockOf(t, h)[:480], 0
		for bit := range 480 * 8 {
			b[bit/8] ^= 1 << (bit % 8)
			is := decodes(t, sealed(b))
			if is && (bit < 64 || bit >= 44*8) {
				t.Errorf("bit %d is turned: it is a header's", bit)
			}
			if is {
				right++
			}
			b[bit/8] ^= 1 << (bit % 8)
		}
		if right < 128+60 {
			t.Errorf("%+v: %d bits make another header", h, right)
		}
	}
}

// P11.1: headers that may not be, written as if they might.
func TestBlocksOfHeadersThatMayNotBe(t *testing.T) {
	for name, set := range fields() {
		for _, x := range []int{0, 1, 7, 8, 9, 15, 16, 17, 20, 21, 22, 255} {
			h := usual()
			set(&h, x)
			if decodes(t, wordedBlock(h)) != wordedMay(h) {
				t.Errorf("%s is %d", name, x)
			}
		}
	}
	for _, change := range []func(h *api.Head){
		func(h *api.Head) { h.Generation = 0 },
		func(h *api.Head) { h.Sectors = 1025 },
		func(h *api.Head) { h.Sectors = 1<<31 + 1 },
		func(h *api.Head) { h.Sectors = 1<<32 - 1 },
		func(h *api.Head) { h.Journal = 257 },
		func(h *api.Head) { h.Journal = 1<<16 - 1 },
		func(h *api.Head) { h.Params.Memory = 257 },
		func(h *api.Head) { h.Params.Memory = 1<<16 - 1 },
	} {
		h := usual()
		change(&h)
		if decodes(t, wordedBlock(h)) {
			t.Errorf("%+v is decoded", h)
		}
	}
}

// P11.1: digests of other bytes than the 480.
func TestOtherDigests(t *testing.T) {
	b := blockOf(t, usual())
	for _, size := range []int{0, 8, 44, 479, 481, 512} {
		other := bytes.Clone(b)
		clear(other[480:])
		digest := sha256.Sum256(other[:size])
		copy(other[480:], digest[:])
		if decodes(t, other) {
			t.Errorf("a digest of %d bytes is right", size)
		}
	}
	for _, other := range [][]byte{make([]byte, 512), sealed(nil), sample.Bytes(512)} {
		if decodes(t, other) {
			t.Errorf("%x is a header's", other)
		}
	}
}

// P11.2: of two headers the later one, of equal ones the first.
func TestChoose(t *testing.T) {
	generations := []uint64{1, 2, 255, 256, 1<<32 - 1, 1 << 32, 1<<63 - 1, 1 << 63, math.MaxUint64}
	for i, x := range generations {
		for j, y := range generations {
			a, b := usual(), great()
			a.Generation, b.Generation = x, y
			want, which := a, 0
			if j > i {
				want, which = b, 1
			}
			if h, n, e := Choose(blockOf(t, a), blockOf(t, b)); h != want || n != which || e != api.OK {
				t.Errorf("the generations %d, %d: %+v, %d, %d", x, y, h, n, e)
			}
		}
	}
}

// P11.2: of a header and something else the header, whatever its generation; of none nothing.
func TestChooseOfOne(t *testing.T) {
	later := great()
	torn := blockOf(t, later)
	torn[300] ^= 1
	later.Slots = 9
	others := [][]byte{nil, {}, torn, torn[:511], append(blockOf(t, great()), 0), make([]byte, 512), wordedBlock(later), sample.Bytes(512)}
	for i, other := range others {
		for _, h := range []api.Head{small(), usual(), great()} {
			b := blockOf(t, h)
			if got, n, e := Choose(b, other); got != h || n != 0 || e != api.OK {
				t.Errorf("the first, beside %d: %+v, %d, %d", i, got, n, e)
			}
			if got, n, e := Choose(other, b); got != h || n != 1 || e != api.OK {
				t.Errorf("the second, beside %d: %+v, %d, %d", i, got, n, e)
			}
		}
		for j, second := range others {
			if got, n, e := Choose(other, second); got != (api.Head{}) || n != 0 || e != api.ErrFormat {
				t.Errorf("neither, %d and %d: %+v, %d, %d", i, j, got, n, e)
			}
		}
	}
}

// P11.2: the chapter's example.
func TestExample(t *testing.T) {
	h := small()
	h.Sectors, h.Slots, h.Journal = 100, 2, 16
	want := api.Layout{Slots: 2, Keys: 4, Root: 5, Journal: 6, Tree: 22, Levels: []int{1}, Tags: 23, Data: 36, Blocks: 136}
	if l := layoutOf(t, h); !sameLayout(l, want) {
		t.Errorf("%+v", l)
	}
}

// P11.2: how many levels there are, where one more block of tags makes one more of the tree.
func TestLevels(t *testing.T) {
	for _, x := range []struct {
		sectors, tags int
		levels        []int
	}{
		{1, 1, []int{1}}, {8, 1, []int{1}}, {9, 2, []int{1}}, {128, 16, []int{1}},
		{129, 17, []int{2, 1}}, {136, 17, []int{2, 1}}, {256, 32, []int{2, 1}}, {257, 33, []int{3, 1}},
		{896, 112, []int{7, 1}}, {897, 113, []int{8, 1}}, {1024, 128, []int{8, 1}},
	} {
		h := usual()
		h.Sectors = x.sectors
		if l := layoutOf(t, h); !slices.Equal(l.Levels, x.levels) || l.Data-l.Tags != x.tags {
			t.Errorf("%d sectors: levels %v, %d blocks of tags", x.sectors, l.Levels, l.Data-l.Tags)
		}
	}
}

// P11.2, P11.3: all numbers of sectors, slots and journal blocks; parts lie one behind the other.
func TestLayouts(t *testing.T) {
	try := func(h api.Head) {
		l := layoutOf(t, h)
		if want := wordedLayout(h); !sameLayout(l, want) {
			t.Fatalf("Layout(%+v): %+v, not %+v", h, l, want)
		}
		tree := 0
		for _, blocks := range l.Levels {
			tree += blocks
		}
		ends := []int{2, l.Slots + h.Slots, l.Keys + 1, l.Root + 1, l.Journal + h.Journal, l.Tree + tree, l.Tags + (h.Sectors+7)/8, l.Data + h.Sectors}
		if begins := []int{l.Slots, l.Keys, l.Root, l.Journal, l.Tree, l.Tags, l.Data, l.Blocks}; !slices.Equal(begins, ends) {
			t.Fatalf("Layout(%+v): parts begin at %v, and end at %v", h, begins, ends)
		}
		if l.Blocks > api.MaxBlocks {
			t.Fatalf("Layout(%+v): no disk has %d blocks", h, l.Blocks)
		}
	}
	for sectors := 1; sectors <= 1024; sectors++ {
		for _, h := range []api.Head{usual(), small(), great()} {
			h.Sectors = sectors
			try(h)
		}
	}
	for slots := 1; slots <= 8; slots++ {
		for journal := 26; journal <= 256; journal++ {
			h := usual()
			h.Slots, h.Journal = slots, journal
			try(h)
		}
	}
}

// P11.2: where parts lie hangs on how many they are, and on nothing else of a header.
func TestLayoutHangsOnParts(t *testing.T) {
	a, b := usual(), great()
	b.Sectors, b.Slots, b.Journal = a.Sectors, a.Slots, a.Journal
	if x, y := layoutOf(t, a), layoutOf(t, b); !sameLayout(x, y) {
		t.Errorf("%+v, %+v", x, y)
	}
}

// P11.3: what was encoded is decoded, and no two headers have the same block.
func TestEncodedIsDecoded(t *testing.T) {
	source := sample.Source(2)
	heads := []api.Head{usual(), small(), great()}
	for range 2000 {
		heads = append(heads, anyHead(&source))
	}
	seen := map[[512]byte]api.Head{}
	for _, h := range heads {
		b := blockOf(t, h)
		if got, e := Decode(b); got != h || e != api.OK {
			t.Errorf("%+v: %+v, %d", h, got, e)
		}
		if other, two := seen[[512]byte(b)]; two && other != h {
			t.Errorf("%+v, %+v: one block", h, other)
		}
		seen[[512]byte(b)] = h
	}
}

// P11.3: whatever is decoded is the block that its header has: bytes changed here and there, below a digest that is right.
func TestOneBlockSaysIt(t *testing.T) {
	source, right := sample.Source(3), 0
	for range 5000 {
		b := blockOf(t, anyHead(&source))[:480]
		for range source.Below(3) {
			b[source.Below(50)] = byte(source.Below(20))
		}
		b = sealed(b)
		if !decodes(t, b) {
			continue
		}
		right++
		h, _ := Decode(b)
		if again := blockOf(t, h); !bytes.Equal(again, b) {
			t.Fatalf("%+v has two blocks: %x, %x", h, b, again)
		}
	}
	if right < 1000 || right > 4900 {
		t.Errorf("%d of 5000 are headers' blocks", right)
	}
}

// R3
func TestArgumentsAreLeftAlone(t *testing.T) {
	room := append(append(blockOf(t, usual()), blockOf(t, great())...), sample.Bytes(100)...)
	kept := bytes.Clone(room)
	for _, size := range []int{0, 100, 512} {
		a, b := room[:size], room[512:512+size]
		Decode(a)
		Choose(a, b)
		if !bytes.Equal(room, kept) {
			t.Errorf("blocks of %d bytes are changed", size)
		}
	}
	h, _ := Decode(room[:512])
	clear(room)
	if h != usual() {
		t.Error("a header hangs on its block")
	}
}

// R3
func TestAnswersAreNew(t *testing.T) {
	if wrong := sample.NotNew(func() []byte { return blockOf(t, usual()) }); wrong != "" {
		t.Errorf("Encode: %s", wrong)
	}
	for _, h := range []api.Head{small(), great()} {
		first, want := layoutOf(t, h).Levels, wordedLayout(h).Levels
		second := layoutOf(t, h).Levels
		if room := first[len(first):cap(first)]; slices.ContainsFunc(room, func(x int) bool { return x != 0 }) {
			t.Errorf("numbers are in the room behind the levels: %v", room)
		}
		clear(first[:cap(first)])
		if !slices.Equal(second, want) || !slices.Equal(layoutOf(t, h).Levels, want) {
			t.Error("levels share memory")
		}
	}
}
