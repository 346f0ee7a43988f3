package slot

import (
	"bytes"
	"encoding/binary"
	"math"
	"slices"
	"testing"

	"casket/api"
	"casket/sample"
)

// wild are numbers that no epoch has.
var wild = []int{math.MinInt, math.MinInt + 1, math.MinInt32, -1 << 32, -1<<32 + 1, -2, -1, 0, 1 << 32, 1<<32 + 1, 1<<33 + 4, math.MaxInt - 1, math.MaxInt}

// edges are numbers that epochs have.
var edges = []int{1, 2, 255, 256, 1<<16 - 1, 1 << 16, 1<<31 - 1, 1 << 31, 1<<32 - 2, 1<<32 - 1}

// anySlot is an Active slot.
func anySlot(source *sample.Source) api.Slot {
	return api.Slot{Active: true, Salt: [16]byte(source.Bytes(16)), Wrapped: [32]byte(source.Bytes(32)), Tag: [32]byte(source.Bytes(32))}
}

// keysOf are of these epochs, whether they may be or not.
func keysOf(source *sample.Source, epochs ...int) api.Keys {
	var k api.Keys
	for _, n := range epochs {
		k.Epochs = append(k.Epochs, api.Epoch{Epoch: n, Wrapped: [64]byte(source.Bytes(64))})
	}
	k.Tag = [32]byte(source.Bytes(32))
	return k
}

// anyKeys may be: of one epoch, or of two.
func anyKeys(source *sample.Source) api.Keys {
	first := 1 + int(binary.LittleEndian.Uint32(source.Bytes(4)))>>source.Below(32)%(1<<32-2)
	if source.Below(2) == 0 {
		return keysOf(source, first)
	}
	return keysOf(source, first, first+1)
}

func sameKeys(a, b api.Keys) bool {
	return slices.Equal(a.Epochs, b.Epochs) && a.Tag == b.Tag
}

// filled is a block that begins with parts, and has zeros behind them.
func filled(parts ...[]byte) []byte {
	block := make([]byte, 512)
	copy(block, slices.Concat(parts...))
	return block
}

// wordedSlot is an Active slot's block, as the chapter words it.
func wordedSlot(s api.Slot) []byte {
	return filled([]byte("SLOT"), s.Salt[:], s.Wrapped[:], s.Tag[:])
}

// wordedSealed is what stands ahead of a block's tag, as the chapter words it, whether the keys may be or not.
func wordedSealed(k api.Keys) []byte {
	b := append([]byte("KEYS"), byte(len(k.Epochs)))
	for _, x := range k.Epochs {
		b = binary.LittleEndian.AppendUint32(b, uint32(x.Epoch))
		b = append(b, x.Wrapped[:]...)
	}
	return b
}

func wordedKeys(k api.Keys) []byte {
	return filled(wordedSealed(k), k.Tag[:])
}

// wordedMay tells whether keys may be.
func wordedMay(k api.Keys) bool {
	right := func(n int) bool { return n >= 1 && n <= 1<<32-1 }
	switch len(k.Epochs) {
	case 1:
		return right(k.Epochs[0].Epoch)
	case 2:
		a, b := k.Epochs[0].Epoch, k.Epochs[1].Epoch
		return right(a) && right(b) && b == a+1
	}
	return false
}

// saysSlot is what a block says, and whether it is a slot's.
func saysSlot(b []byte) (api.Slot, bool) {
	if bytes.Equal(b, make([]byte, 512)) {
		return api.Slot{}, true
	}
	if len(b) != 512 {
		return api.Slot{}, false
	}
	s := api.Slot{Active: true, Salt: [16]byte(b[4:]), Wrapped: [32]byte(b[20:]), Tag: [32]byte(b[52:])}
	if !bytes.Equal(b, wordedSlot(s)) {
		return api.Slot{}, false
	}
	return s, true
}

// saysKeys is what a block says, and whether it is one of keys.
func saysKeys(b []byte) (api.Keys, bool) {
	if len(b) != 512 || b[4] > 2 {
		return api.Keys{}, false
	}
	var k api.Keys
	rest := b[5:]
	for range b[4] {
		k.Epochs = append(k.Epochs, api.Epoch{Epoch: int(binary.LittleEndian.Uint32(rest)), Wrapped: [64]byte(rest[4:])})
		rest = rest[68:]
	}
	k.Tag = [32]byte(rest)
	if !wordedMay(k) || !bytes.Equal(b, wordedKeys(k)) {
		return api.Keys{}, false
	}
	return k, true
}

func errorOf(right bool) api.Errno {
	if right {
		return api.OK
	}
	return api.ErrFormat
}

// decodesSlot holds what DecodeSlot says of a block against the words.
func decodesSlot(t *testing.T, b []byte) bool {
	t.Helper()
	want, right := saysSlot(b)
	if s, e := DecodeSlot(b); s != want || e != errorOf(right) {
		t.Errorf("DecodeSlot(%x): %+v, %d, not %+v, %d", b, s, e, want, errorOf(right))
	}
	return right
}

// decodesKeys holds what DecodeKeys says of a block against the words.
func decodesKeys(t *testing.T, b []byte) bool {
	t.Helper()
	want, right := saysKeys(b)
	if k, e := DecodeKeys(b); !sameKeys(k, want) || e != errorOf(right) {
		t.Errorf("DecodeKeys(%x): %+v, %d, not %+v, %d", b, k, e, want, errorOf(right))
	}
	return right
}

// encodesKeys holds what EncodeKeys and Sealed say of keys against the words.
func encodesKeys(t *testing.T, k api.Keys) bool {
	t.Helper()
	b, e := EncodeKeys(k)
	s, f := Sealed(k)
	if !wordedMay(k) {
		if len(b) != 0 || e != api.ErrArg || len(s) != 0 || f != api.ErrArg {
			t.Errorf("%+v may not be: EncodeKeys %x, %d, Sealed %x, %d", k, b, e, s, f)
		}
		return false
	}
	if e != api.OK || f != api.OK || !bytes.Equal(b, wordedKeys(k)) || !bytes.Equal(s, wordedSealed(k)) {
		t.Errorf("%+v: EncodeKeys %x, %d, Sealed %x, %d", k, b, e, s, f)
	}
	return true
}

// P12.1: the chapter's example.
func TestExample(t *testing.T) {
	if b, e := EncodeSlot(api.Slot{}); e != api.OK || !bytes.Equal(b, make([]byte, 512)) {
		t.Errorf("an empty slot: %x, %d", b, e)
	}
	if s, e := DecodeSlot(make([]byte, 512)); e != api.OK || s != (api.Slot{}) {
		t.Errorf("512 zeros: %+v, %d", s, e)
	}
}

// P12.1: where the parts of a slot's block are.
func TestSlotBlock(t *testing.T) {
	s := api.Slot{Active: true, Salt: [16]byte(bytes.Repeat([]byte{1}, 16)), Wrapped: [32]byte(bytes.Repeat([]byte{2}, 32)), Tag: [32]byte(bytes.Repeat([]byte{3}, 32))}
	b, e := EncodeSlot(s)
	if e != api.OK || len(b) != 512 || string(b[:4]) != "SLOT" {
		t.Fatalf("%x, %d", b, e)
	}
	for i, x := range b[4:] {
		want := byte(0)
		switch {
		case i < 16:
			want = 1
		case i < 48:
			want = 2
		case i < 80:
			want = 3
		}
		if x != want {
			t.Errorf("byte %d: %d, not %d", i+4, x, want)
		}
	}
	source := sample.Source(1)
	for range 100 {
		s := anySlot(&source)
		if b, e := EncodeSlot(s); e != api.OK || !bytes.Equal(b, wordedSlot(s)) {
			t.Errorf("%+v: %x, %d", s, b, e)
		}
	}
}

// P12.1: a slot that is not Active has nothing else.
func TestEmptyWithSomething(t *testing.T) {
	for i := range 80 {
		for _, x := range []byte{1, 0x80, 0xff} {
			var s api.Slot
			switch {
			case i < 16:
				s.Salt[i] = x
			case i < 48:
				s.Wrapped[i-16] = x
			default:
				s.Tag[i-48] = x
			}
			if b, e := EncodeSlot(s); len(b) != 0 || e != api.ErrArg {
				t.Errorf("byte %d of what is empty is %d: %x, %d", i, x, b, e)
			}
			s.Active = true
			if b, e := EncodeSlot(s); e != api.OK || !bytes.Equal(b, wordedSlot(s)) {
				t.Errorf("byte %d of what is Active is %d: %x, %d", i, x, b, e)
			}
		}
	}
}

// P12.1: Active, though all else is zeros.
func TestActiveWithZeros(t *testing.T) {
	s := api.Slot{Active: true}
	b, e := EncodeSlot(s)
	if e != api.OK || !bytes.Equal(b, filled([]byte("SLOT"))) {
		t.Errorf("%x, %d", b, e)
	}
	if got, e := DecodeSlot(b); got != s || e != api.OK {
		t.Errorf("decoded: %+v, %d", got, e)
	}
}

// P12.1, P12.2: blocks of other lengths are none, zeros neither.
func TestOtherLengths(t *testing.T) {
	source := sample.Source(2)
	for _, b := range [][]byte{make([]byte, 512), wordedSlot(anySlot(&source)), wordedSlot(api.Slot{Active: true}), wordedKeys(keysOf(&source, 7)), wordedKeys(keysOf(&source, 7, 8))} {
		for size := range 1100 {
			cut := append(bytes.Clone(b), make([]byte, 600)...)[:size]
			isSlot, isKeys := decodesSlot(t, cut), decodesKeys(t, cut)
			if isSlot != (size == 512 && b[0] != 'K') || isKeys != (size == 512 && b[0] == 'K') {
				t.Errorf("%d bytes of %x: a slot %t, keys %t", size, b[:5], isSlot, isKeys)
			}
		}
	}
	if decodesSlot(t, nil) || decodesKeys(t, nil) {
		t.Error("nothing is a block")
	}
}

// P12.1: each bit that is turned makes another slot, or none.
func TestEachBitOfASlot(t *testing.T) {
	source := sample.Source(3)
	for _, b := range [][]byte{make([]byte, 512), wordedSlot(anySlot(&source)), wordedSlot(api.Slot{Active: true})} {
		active := b[0] != 0
		for bit := range 512 * 8 {
			b[bit/8] ^= 1 << (bit % 8)
			if decodesSlot(t, b) != (active && bit >= 4*8 && bit < 84*8) {
				t.Errorf("bit %d is turned", bit)
			}
			b[bit/8] ^= 1 << (bit % 8)
		}
	}
}

// P12.1, P12.2: other marks.
func TestOtherMarks(t *testing.T) {
	source := sample.Source(4)
	slot, keys := wordedSlot(anySlot(&source)), wordedKeys(keysOf(&source, 1, 2))
	for _, mark := range []string{"\x00\x00\x00\x00", "slot", "keys", "TOLS", "SYEK", "SLO\x00", "KEY\x00", "\x00LOT", "\x00EYS"} {
		copy(slot, mark)
		copy(keys, mark)
		if decodesSlot(t, slot) || decodesKeys(t, keys) {
			t.Errorf("%q is a mark", mark)
		}
	}
	copy(slot, "KEYS")
	copy(keys, "SLOT")
	if decodesSlot(t, slot) || decodesKeys(t, slot) || decodesSlot(t, keys) || decodesKeys(t, keys) {
		t.Error("the marks are exchanged")
	}
}

// P12.2: where the parts of a block of keys are.
func TestKeysBlock(t *testing.T) {
	part := func(x byte, count int) []byte { return bytes.Repeat([]byte{x}, count) }
	one := api.Epoch{Epoch: 0x12345678, Wrapped: [64]byte(part(1, 64))}
	two := api.Epoch{Epoch: 0x12345679, Wrapped: [64]byte(part(2, 64))}
	tag := [32]byte(part(3, 32))
	first := slices.Concat([]byte{0x78, 0x56, 0x34, 0x12}, one.Wrapped[:])
	second := slices.Concat([]byte{0x79, 0x56, 0x34, 0x12}, two.Wrapped[:])
	for _, x := range []struct {
		keys api.Keys
		want []byte
	}{
		{api.Keys{Epochs: []api.Epoch{one}, Tag: tag}, slices.Concat([]byte("KEYS\x01"), first)},
		{api.Keys{Epochs: []api.Epoch{one, two}, Tag: tag}, slices.Concat([]byte("KEYS\x02"), first, second)},
	} {
		b, e := EncodeKeys(x.keys)
		if e != api.OK || !bytes.Equal(b, filled(x.want, tag[:])) {
			t.Errorf("%x, %d", b, e)
		}
		if s, e := Sealed(x.keys); e != api.OK || !bytes.Equal(s, x.want) {
			t.Errorf("Sealed: %x, %d", s, e)
		}
		if k, e := DecodeKeys(b); e != api.OK || !sameKeys(k, x.keys) {
			t.Errorf("decoded: %+v, %d", k, e)
		}
	}
}

// P12.2: one epoch, of all numbers that are hard to be right about.
func TestOneEpoch(t *testing.T) {
	source := sample.Source(5)
	for _, n := range edges {
		k := keysOf(&source, n)
		if !encodesKeys(t, k) || !decodesKeys(t, wordedKeys(k)) {
			t.Errorf("the epoch %d may not be", n)
		}
	}
	for _, n := range wild {
		if encodesKeys(t, keysOf(&source, n)) {
			t.Errorf("the epoch %d may be", n)
		}
	}
}

// P12.2: two epochs: the second one is one more than the first, and an epoch itself.
func TestTwoEpochs(t *testing.T) {
	source := sample.Source(6)
	numbers := slices.Concat(edges, wild)
	for _, n := range numbers {
		for _, other := range append([]int{n - 2, n - 1, n, n + 1, n + 2, n + 1 + 1<<32, n + 1 - 1<<32}, numbers...) {
			k := keysOf(&source, n, other)
			may := n >= 1 && n < 1<<32-1 && other == n+1
			if encodesKeys(t, k) != may {
				t.Errorf("the epochs %d, %d", n, other)
			}
			if may && !decodesKeys(t, wordedKeys(k)) {
				t.Errorf("the epochs %d, %d are not decoded", n, other)
			}
		}
	}
}

// P12.2: none, and more than two, though each is one more than the one ahead.
func TestHowManyEpochs(t *testing.T) {
	source := sample.Source(7)
	var numbers []int
	for count := range 300 {
		if encodesKeys(t, keysOf(&source, numbers...)) != (count == 1 || count == 2) {
			t.Errorf("%d epochs", count)
		}
		numbers = append(numbers, count+1)
	}
	if !encodesKeys(t, api.Keys{Epochs: []api.Epoch{{Epoch: 1}}}) || encodesKeys(t, api.Keys{Epochs: []api.Epoch{}}) {
		t.Error("one epoch may be, of zeros too; none may not")
	}
}

// P12.2: blocks that say another number of epochs than they have.
func TestOtherCounts(t *testing.T) {
	source := sample.Source(8)
	for _, k := range []api.Keys{keysOf(&source, 7), keysOf(&source, 7, 8), {Epochs: []api.Epoch{{Epoch: 7}}}, {Epochs: []api.Epoch{{Epoch: 7}, {Epoch: 8}}}} {
		b := wordedKeys(k)
		for count := range 256 {
			b[4] = byte(count)
			// A tag may begin as an epoch does: two epochs without keys can be read as one with that tag.
			either := k.Tag == [32]byte{} && len(k.Epochs) == 2 && count == 1
			if decodesKeys(t, b) != (count == len(k.Epochs) || either) {
				t.Errorf("%d epochs, said to be %d", len(k.Epochs), count)
			}
		}
	}
	// Three epochs, and as many as there is room for, of which each is one more than the one ahead.
	for count := 3; count <= 7; count++ {
		var numbers []int
		for n := range count {
			numbers = append(numbers, n+1)
		}
		if decodesKeys(t, wordedKeys(keysOf(&source, numbers...))) {
			t.Errorf("%d epochs are decoded", count)
		}
	}
}

// P12.2: epochs that may not be, written as if they might.
func TestBlocksOfEpochsThatMayNotBe(t *testing.T) {
	source := sample.Source(9)
	if decodesKeys(t, wordedKeys(keysOf(&source, 0))) || decodesKeys(t, wordedKeys(keysOf(&source, 0, 1))) {
		t.Error("the epoch 0 is decoded")
	}
	for _, n := range edges {
		for _, other := range append([]int{0, n - 2, n - 1, n, n + 2}, edges...) {
			k := keysOf(&source, n, other)
			if decodesKeys(t, wordedKeys(k)) != (other == n+1) {
				t.Errorf("the epochs %d, %d", n, other)
			}
		}
	}
	if decodesKeys(t, wordedKeys(keysOf(&source, 1<<32-1, 1<<32))) {
		t.Error("an epoch behind the last one is decoded")
	}
}

// P12.2: each bit that is turned makes other keys, or none.
func TestEachBitOfKeys(t *testing.T) {
	source := sample.Source(10)
	for _, numbers := range [][]int{{1}, {0x10305}, {0x10305, 0x10306}} {
		b := wordedKeys(keysOf(&source, numbers...))
		end := 5 + 68*len(numbers) + 32
		right := 0
		for bit := range 512 * 8 {
			b[bit/8] ^= 1 << (bit % 8)
			is := decodesKeys(t, b)
			if is && (bit < 5*8 || bit >= end*8) {
				t.Errorf("%v: bit %d is turned: it is a block of keys", numbers, bit)
			}
			if is {
				right++
			}
			b[bit/8] ^= 1 << (bit % 8)
		}
		if right < len(numbers)*512+256 {
			t.Errorf("%v: %d bits make other keys", numbers, right)
		}
	}
}

// P12.2: what the tag is of is the beginning of the block, and hangs on all but the tag.
func TestSealed(t *testing.T) {
	source := sample.Source(11)
	for range 200 {
		k := anyKeys(&source)
		other := k
		other.Tag = [32]byte(source.Bytes(32))
		b, _ := EncodeKeys(k)
		one, e := Sealed(k)
		two, f := Sealed(other)
		if e != api.OK || f != api.OK || !bytes.Equal(one, two) || len(one) != 5+68*len(k.Epochs) {
			t.Errorf("%x, %d, %x, %d", one, e, two, f)
		}
		if want := filled(one, k.Tag[:]); !bytes.Equal(b, want) {
			t.Errorf("the block %x begins otherwise: %x", b, one)
		}
	}
}

// P12.3: what was encoded is decoded.
func TestEncodedIsDecoded(t *testing.T) {
	source := sample.Source(12)
	for range 1000 {
		s, k := anySlot(&source), anyKeys(&source)
		b, e := EncodeSlot(s)
		if got, f := DecodeSlot(b); got != s || e != api.OK || f != api.OK {
			t.Errorf("%+v: %d, %+v, %d", s, e, got, f)
		}
		b, e = EncodeKeys(k)
		if got, f := DecodeKeys(b); !sameKeys(got, k) || e != api.OK || f != api.OK {
			t.Errorf("%+v: %d, %+v, %d", k, e, got, f)
		}
	}
}

// P12.3: whatever is decoded is the block that it has: bytes changed here and there, of which many make nothing.
func TestOneBlockSaysIt(t *testing.T) {
	source := sample.Source(13)
	slots, keys := 0, 0
	for range 5000 {
		b := wordedSlot(anySlot(&source))
		c := wordedKeys(anyKeys(&source))
		for range source.Below(3) {
			b[source.Below(100)] = byte(source.Below(3))
			c[source.Below(190)] = byte(source.Below(3))
		}
		if decodesSlot(t, b) {
			slots++
			s, _ := DecodeSlot(b)
			if again, e := EncodeSlot(s); e != api.OK || !bytes.Equal(again, b) {
				t.Fatalf("%+v has two blocks: %x, %x", s, b, again)
			}
		}
		if decodesKeys(t, c) {
			keys++
			k, _ := DecodeKeys(c)
			if again, e := EncodeKeys(k); e != api.OK || !bytes.Equal(again, c) {
				t.Fatalf("%+v has two blocks: %x, %x", k, c, again)
			}
		}
	}
	if slots < 1000 || slots > 4900 || keys < 1000 || keys > 4900 {
		t.Errorf("of 5000 blocks %d are slots', %d of keys", slots, keys)
	}
}

// R3
func TestArgumentsAreLeftAlone(t *testing.T) {
	source := sample.Source(14)
	room := slices.Concat(wordedSlot(anySlot(&source)), wordedKeys(keysOf(&source, 5, 6)), source.Bytes(100))
	kept := bytes.Clone(room)
	s, _ := DecodeSlot(room[:512])
	k, e := DecodeKeys(room[512:1024])
	if !bytes.Equal(room, kept) || e != api.OK {
		t.Errorf("blocks are changed, %d", e)
	}
	clear(room)
	if !bytes.Equal(wordedSlot(s), kept[:512]) || !bytes.Equal(wordedKeys(k), kept[512:1024]) {
		t.Error("what is decoded hangs on its block")
	}
	many := keysOf(&source, 1, 2, 3, 4).Epochs
	was := slices.Clone(many)
	for count := range 5 {
		encodesKeys(t, api.Keys{Epochs: many[:count]})
		if !slices.Equal(many, was) {
			t.Errorf("%d epochs are changed, or what is behind them", count)
		}
	}
}

// R3
func TestAnswersAreNew(t *testing.T) {
	source := sample.Source(15)
	s, k := anySlot(&source), keysOf(&source, 5, 6)
	for name, ask := range map[string]func() []byte{
		"an empty slot": func() []byte { b, _ := EncodeSlot(api.Slot{}); return b },
		"a slot":        func() []byte { b, _ := EncodeSlot(s); return b },
		"keys":          func() []byte { b, _ := EncodeKeys(k); return b },
		"Sealed":        func() []byte { b, _ := Sealed(k); return b },
	} {
		if wrong := sample.NotNew(ask); wrong != "" {
			t.Errorf("%s: %s", name, wrong)
		}
	}
	b := wordedKeys(k)
	one, _ := DecodeKeys(b)
	two, _ := DecodeKeys(b)
	if room := one.Epochs[2:cap(one.Epochs)]; slices.ContainsFunc(room, func(x api.Epoch) bool { return x != api.Epoch{} }) {
		t.Error("an epoch is in the room behind the others")
	}
	clear(one.Epochs[:cap(one.Epochs)])
	if again, _ := DecodeKeys(b); !sameKeys(two, k) || !sameKeys(again, k) {
		t.Error("epochs share memory")
	}
}
