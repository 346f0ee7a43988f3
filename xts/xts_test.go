package xts

import (
	"bytes"
	standard "crypto/aes"
	"crypto/cipher"
	"encoding/hex"
	"math"
	"math/big"
	"testing"

	"casket/api"
	"casket/sample"
)

func fromHex(t *testing.T, text string) []byte {
	t.Helper()
	b, err := hex.DecodeString(text)
	if err != nil {
		t.Fatal(err)
	}
	return b
}

func pairOf(t *testing.T, key []byte) *Pair {
	t.Helper()
	p, e := New(key)
	if e != api.OK || p == nil {
		t.Fatalf("New of %d bytes: %v, %d", len(key), p, e)
	}
	return p
}

func encrypted(t *testing.T, p *Pair, unit uint64, data []byte) []byte {
	t.Helper()
	b, e := p.Encrypt(unit, data)
	if e != api.OK || len(b) != len(data) {
		t.Fatalf("Encrypt of %d bytes: %d bytes, %d", len(data), len(b), e)
	}
	return b
}

func decrypted(t *testing.T, p *Pair, unit uint64, data []byte) []byte {
	t.Helper()
	b, e := p.Decrypt(unit, data)
	if e != api.OK || len(b) != len(data) {
		t.Fatalf("Decrypt of %d bytes: %d bytes, %d", len(data), len(b), e)
	}
	return b
}

// someKeys are keys of both lengths: zeros, ones, and others.
func someKeys() [][]byte {
	var list [][]byte
	source := sample.Source(3)
	for _, n := range []int{32, 64} {
		list = append(list, make([]byte, n), bytes.Repeat([]byte{0xff}, n), source.Bytes(n), source.Bytes(n))
	}
	return list
}

func someUnits() []uint64 {
	return []uint64{0, 1, 255, 256, 1 << 32, 0x0123456789abcdef, 1 << 63, math.MaxUint64}
}

// someLengths are all of the short ones, and those about the ends of sectors and of the limit.
func someLengths() []int {
	var list []int
	for n := 16; n <= 80; n++ {
		list = append(list, n)
	}
	return append(list, 511, 512, 513, 520, 4096, 4097, api.MaxUnit-17, api.MaxUnit-16, api.MaxUnit-15, api.MaxUnit-1, api.MaxUnit)
}

// worded enciphers as the chapter words it, by the library's cipher and great numbers.
type worded struct {
	blocks, tweaks cipher.Block
}

func wordedOf(t *testing.T, key []byte) worded {
	t.Helper()
	blocks, first := standard.NewCipher(key[:len(key)/2])
	tweaks, second := standard.NewCipher(key[len(key)/2:])
	if first != nil || second != nil {
		t.Fatal(first, second)
	}
	return worded{blocks, tweaks}
}

func reversed(b []byte) []byte {
	list := make([]byte, len(b))
	for i := range b {
		list[len(b)-1-i] = b[i]
	}
	return list
}

// tweakList is the bytes of a unit's tweaks at places 0 to count - 1.
func (w worded) tweakList(unit uint64, count int) [][16]byte {
	var number, first [16]byte
	for i := range 8 {
		number[i] = byte(unit >> (8 * i))
	}
	w.tweaks.Encrypt(first[:], number[:])
	element := new(big.Int).SetBytes(reversed(first[:]))
	modulus := new(big.Int).Lsh(big.NewInt(1), 128)
	modulus.Or(modulus, big.NewInt(0x87))
	list := make([][16]byte, count)
	for j := range list {
		var high [16]byte
		element.FillBytes(high[:])
		copy(list[j][:], reversed(high[:]))
		element.Lsh(element, 1)
		if element.Bit(128) == 1 {
			element.Xor(element, modulus)
		}
	}
	return list
}

func (w worded) at(tweak [16]byte, block []byte) []byte {
	answer := make([]byte, 16)
	for i := range answer {
		answer[i] = block[i] ^ tweak[i]
	}
	w.blocks.Encrypt(answer, answer)
	for i := range answer {
		answer[i] ^= tweak[i]
	}
	return answer
}

func (w worded) encrypt(unit uint64, data []byte) []byte {
	tweaks := w.tweakList(unit, len(data)/16+2)
	whole, r := len(data)/16, len(data)%16
	var answer []byte
	for j := range whole {
		answer = append(answer, w.at(tweaks[j], data[16*j:])...)
	}
	if r == 0 {
		return answer
	}
	m := whole - 1
	c := answer[16*m:]
	ahead := w.at(tweaks[m+1], append(append([]byte{}, data[16*whole:]...), c[r:]...))
	return append(append(append([]byte{}, answer[:16*m]...), ahead...), c[:r]...)
}

// P3.1: the chapter's example, and those of the standard.
func TestExamples(t *testing.T) {
	const (
		zeros  = "0000000000000000000000000000000000000000000000000000000000000000"
		fours  = "4444444444444444444444444444444444444444444444444444444444444444"
		stolen = "fffefdfcfbfaf9f8f7f6f5f4f3f2f1f0bfbebdbcbbbab9b8b7b6b5b4b3b2b1b0"
		rising = "000102030405060708090a0b0c0d0e0f10111213"
	)
	for _, x := range []struct {
		key           string
		unit          uint64
		plain, sealed string
	}{
		{zeros, 0, zeros, "917cf69ebd68b2ec9b9fe9a3eadda692cd43d2f59598ed858c02c2652fbf922e"},
		{"1111111111111111111111111111111122222222222222222222222222222222", 0x3333333333, fours, "c454185e6a16936e39334038acef838bfb186fff7480adc4289382ecd6d394f0"},
		{"fffefdfcfbfaf9f8f7f6f5f4f3f2f1f022222222222222222222222222222222", 0x3333333333, fours, "af85336b597afc1a900b2eb21ec949d292df4c047e0b21532186a5971a227a89"},
		{stolen, 0x123456789a, rising[:34], "6c1625db4671522d3d7599601de7ca09ed"},
		{stolen, 0x123456789a, rising[:36], "d069444b7a7e0cab09e24447d24deb1fedbf"},
		{stolen, 0x123456789a, rising[:38], "e5df1351c0544ba1350b3363cd8ef4beedbf9d"},
		{stolen, 0x123456789a, rising, "9d84c813f719aa2c7be3f66171c7c5c2edbf9dac"},
	} {
		p := pairOf(t, fromHex(t, x.key))
		plain, sealed := fromHex(t, x.plain), fromHex(t, x.sealed)
		if got := encrypted(t, p, x.unit, plain); !bytes.Equal(got, sealed) {
			t.Errorf("key %s: Encrypt(%x, %x) = %x, not %x", x.key, x.unit, plain, got, sealed)
		}
		if got := decrypted(t, p, x.unit, sealed); !bytes.Equal(got, plain) {
			t.Errorf("key %s: Decrypt(%x, %x) = %x, not %x", x.key, x.unit, sealed, got, plain)
		}
	}
}

// P3.1: units of many lengths, as the chapter words it.
func TestAsWorded(t *testing.T) {
	source := sample.Source(5)
	units := someUnits()
	for i, key := range someKeys() {
		p, w := pairOf(t, key), wordedOf(t, key)
		for j, n := range someLengths() {
			unit, data := units[(i+j)%len(units)], source.Bytes(n)
			want := w.encrypt(unit, data)
			if got := encrypted(t, p, unit, data); !bytes.Equal(got, want) {
				t.Fatalf("key %x, unit %x: Encrypt of %d bytes is not as worded", key, unit, n)
			}
			if got := decrypted(t, p, unit, want); !bytes.Equal(got, data) {
				t.Fatalf("key %x, unit %x: Decrypt of %d bytes is not as worded", key, unit, n)
			}
		}
	}
}

// P3.1: the lowest byte of a unit's number first, each of its bytes in use.
func TestNumbersOfUnits(t *testing.T) {
	key := sample.Bytes(32)
	p, w := pairOf(t, key), wordedOf(t, key)
	data := make([]byte, 16)
	for i := range 64 {
		unit := uint64(1) << i
		if got, want := encrypted(t, p, unit, data), w.encrypt(unit, data); !bytes.Equal(got, want) {
			t.Errorf("unit 2^%d: %x, not %x", i, got, want)
		}
	}
}

// P3.1
func TestKeysOfOtherLengths(t *testing.T) {
	if p, e := New(nil); p != nil || e != api.ErrKey {
		t.Errorf("New(nil): %v, %d", p, e)
	}
	room := make([]byte, 1<<16)
	for n := range 200 {
		if n == 32 || n == 64 {
			continue
		}
		if p, e := New(room[:n]); p != nil || e != api.ErrKey {
			t.Errorf("New of %d bytes: %v, %d", n, p, e)
		}
	}
	if p, e := New(room); p != nil || e != api.ErrKey {
		t.Errorf("New of %d bytes: %v, %d", len(room), p, e)
	}
}

// P3.1: each half of a key is a cipher of its own.
func TestHalvesOfKeys(t *testing.T) {
	data := make([]byte, 48)
	for _, n := range []int{32, 64} {
		key := sample.Bytes(n)
		p := pairOf(t, key)
		for i := range key {
			other := bytes.Clone(key)
			other[i] ^= 1
			q := pairOf(t, other)
			if bytes.Equal(encrypted(t, p, 7, data), encrypted(t, q, 7, data)) {
				t.Errorf("%d bytes: byte %d of the key changes nothing", n, i)
			}
			if same := p.Tweak(7, 0) == q.Tweak(7, 0); same != (i < n/2) {
				t.Errorf("%d bytes: byte %d of the key, the tweak is the same: %v", n, i, same)
			}
		}
	}
}

// P3.1
func TestUnitsOfOtherLengths(t *testing.T) {
	p := pairOf(t, make([]byte, 32))
	room := make([]byte, 4*api.MaxUnit)
	lengths := []int{api.MaxUnit + 1, api.MaxUnit + 15, api.MaxUnit + 16, api.MaxUnit + 512, 2 * api.MaxUnit, 4 * api.MaxUnit}
	for n := range 16 {
		lengths = append(lengths, n)
	}
	for _, n := range lengths {
		if b, e := p.Encrypt(1, room[:n]); len(b) != 0 || e != api.ErrUnit {
			t.Errorf("Encrypt of %d bytes: %d bytes, %d", n, len(b), e)
		}
		if b, e := p.Decrypt(1, room[:n]); len(b) != 0 || e != api.ErrUnit {
			t.Errorf("Decrypt of %d bytes: %d bytes, %d", n, len(b), e)
		}
	}
	if b, e := p.Encrypt(1, nil); len(b) != 0 || e != api.ErrUnit {
		t.Errorf("Encrypt of nil: %d bytes, %d", len(b), e)
	}
	if b, e := p.Decrypt(1, nil); len(b) != 0 || e != api.ErrUnit {
		t.Errorf("Decrypt of nil: %d bytes, %d", len(b), e)
	}
	for _, n := range []int{16, api.MaxUnit} {
		encrypted(t, p, 1, room[:n])
		decrypted(t, p, 1, room[:n])
	}
}

// P3.1
func TestTweak(t *testing.T) {
	for _, key := range someKeys() {
		p, w := pairOf(t, key), wordedOf(t, key)
		for _, unit := range someUnits() {
			list := w.tweakList(unit, 300)
			for j, want := range list {
				if got := p.Tweak(unit, j); got != want {
					t.Fatalf("key %x: Tweak(%x, %d) = %x, not %x", key, unit, j, got, want)
				}
			}
			for _, j := range []int{-1, -2, -128, math.MinInt32, math.MinInt + 1, math.MinInt} {
				if got := p.Tweak(unit, j); got != list[0] {
					t.Errorf("key %x: Tweak(%x, %d) = %x, not %x", key, unit, j, got, list[0])
				}
			}
		}
	}
}

// P3.1: places that no unit has, and which nobody counts through.
func TestTweakOfGreatPlaces(t *testing.T) {
	key := sample.Bytes(64)
	p, w := pairOf(t, key), wordedOf(t, key)
	list := w.tweakList(5, 1<<16+1)
	for _, j := range []int{4095, 4096, 1<<16 - 1, 1 << 16} {
		if got := p.Tweak(5, j); got != list[j] {
			t.Errorf("Tweak(5, %d) = %x, not %x", j, got, list[j])
		}
	}
	ahead, last := p.Tweak(5, math.MaxInt-1), p.Tweak(5, math.MaxInt)
	doubled := new(big.Int).SetBytes(reversed(ahead[:]))
	doubled.Lsh(doubled, 1)
	if doubled.Bit(128) == 1 {
		doubled.SetBit(doubled, 128, 0).Xor(doubled, big.NewInt(0x87))
	}
	if doubled.Cmp(new(big.Int).SetBytes(reversed(last[:]))) != 0 {
		t.Errorf("Tweak(5, 2^63 - 1) = %x, behind %x", last, ahead)
	}
}

// P3.1: the tweaks that are told are those by which blocks are enciphered.
func TestTweakIsUsed(t *testing.T) {
	key := sample.Bytes(32)
	p, w := pairOf(t, key), wordedOf(t, key)
	data := sample.Bytes(20 * 16)
	sealed := encrypted(t, p, 77, data)
	for j := range 20 {
		if got, want := sealed[16*j:16*j+16], w.at(p.Tweak(77, j), data[16*j:]); !bytes.Equal(got, want) {
			t.Errorf("block %d: %x, not %x", j, got, want)
		}
	}
}

// P3.1: of a nil Pair it is ErrClosed, whatever the data is.
func TestNilPair(t *testing.T) {
	var p *Pair
	for _, n := range []int{0, 15, 16, 17, 512, api.MaxUnit, api.MaxUnit + 1} {
		if b, e := p.Encrypt(1, make([]byte, n)); len(b) != 0 || e != api.ErrClosed {
			t.Errorf("Encrypt of %d bytes: %d bytes, %d", n, len(b), e)
		}
		if b, e := p.Decrypt(1, make([]byte, n)); len(b) != 0 || e != api.ErrClosed {
			t.Errorf("Decrypt of %d bytes: %d bytes, %d", n, len(b), e)
		}
	}
	for _, place := range []int{math.MinInt, -1, 0, 1, math.MaxInt} {
		if got := p.Tweak(1, place); got != [16]byte{} {
			t.Errorf("Tweak(1, %d) = %x", place, got)
		}
	}
}

// P3.2
func TestThereAndBack(t *testing.T) {
	source := sample.Source(17)
	units := someUnits()
	for i, key := range someKeys() {
		p := pairOf(t, key)
		for j, n := range someLengths() {
			unit := units[(i+j)%len(units)]
			for _, data := range [][]byte{make([]byte, n), source.Bytes(n)} {
				if got := decrypted(t, p, unit, encrypted(t, p, unit, data)); !bytes.Equal(got, data) {
					t.Fatalf("key %x, unit %x, %d bytes: Decrypt does not undo Encrypt", key, unit, n)
				}
				if got := encrypted(t, p, unit, decrypted(t, p, unit, data)); !bytes.Equal(got, data) {
					t.Fatalf("key %x, unit %x, %d bytes: Encrypt does not undo Decrypt", key, unit, n)
				}
			}
		}
	}
}

// P3.3: what stands elsewhere in the unit, and how long it is, changes nothing of a block.
func TestBlockDependsOnItselfAlone(t *testing.T) {
	const unit, count = 9, 12
	for _, key := range someKeys() {
		p := pairOf(t, key)
		source := sample.Source(19)
		block := source.Bytes(16)
		for name, change := range map[string]func(*testing.T, *Pair, uint64, []byte) []byte{"Encrypt": encrypted, "Decrypt": decrypted} {
			for j := range count {
				var want []byte
				for blocks := j + 1; blocks <= count; blocks++ {
					data := source.Bytes(16 * blocks)
					copy(data[16*j:], block)
					got := change(t, p, unit, data)[16*j : 16*j+16]
					if want == nil {
						want = got
					}
					if !bytes.Equal(got, want) {
						t.Fatalf("%s: block %d of %d: %x, not %x", name, j, blocks, got, want)
					}
				}
			}
		}
	}
}

// P3.3: a bit of a block changes that block, and no other one.
func TestBitOfBlock(t *testing.T) {
	p := pairOf(t, sample.Bytes(64))
	data := sample.Bytes(512)
	sealed := encrypted(t, p, 3, data)
	for i := range data {
		other := bytes.Clone(data)
		other[i] ^= 0x10
		got := encrypted(t, p, 3, other)
		for j := range len(data) / 16 {
			same := bytes.Equal(got[16*j:16*j+16], sealed[16*j:16*j+16])
			if same != (j != i/16) {
				t.Fatalf("byte %d, block %d: the same: %v", i, j, same)
			}
		}
	}
}

// P3.3: the place and the number count too: blocks that are the same are enciphered otherwise.
func TestPlaceAndNumberCount(t *testing.T) {
	p := pairOf(t, sample.Bytes(32))
	seen := map[string]bool{}
	for _, unit := range someUnits() {
		sealed := encrypted(t, p, unit, make([]byte, 512))
		for j := range 32 {
			block := string(sealed[16*j : 16*j+16])
			if seen[block] {
				t.Errorf("unit %x, block %d: seen ahead", unit, j)
			}
			seen[block] = true
		}
	}
}

// R3: keys and data are neither changed nor kept, nor is the room behind their ends; answers are new memory.
func TestArgumentsAreLeftAlone(t *testing.T) {
	for _, size := range []int{32, 64} {
		room := sample.Bytes(100)
		p := pairOf(t, room[:size])
		if !bytes.Equal(room, sample.Bytes(100)) {
			t.Errorf("%d bytes: the key has changed", size)
		}
		data := sample.Bytes(96)
		for n := 16; n <= 64; n++ {
			for _, change := range []func(*testing.T, *Pair, uint64, []byte) []byte{encrypted, decrypted} {
				first := change(t, p, 2, data[:n])
				kept := bytes.Clone(first)
				second := change(t, p, 2, data[:n])
				clear(second[:cap(second)])
				if !bytes.Equal(data, sample.Bytes(96)) {
					t.Fatalf("%d bytes: the data has changed", n)
				}
				if !bytes.Equal(first, kept) {
					t.Fatalf("%d bytes: answers share memory", n)
				}
			}
		}
		sealed, tweak := encrypted(t, p, 2, data), p.Tweak(2, 3)
		clear(room)
		if !bytes.Equal(encrypted(t, p, 2, data), sealed) || p.Tweak(2, 3) != tweak {
			t.Errorf("%d bytes: the pair hangs on the caller's key", size)
		}
	}
}

// R4: an answer hangs on the key and the arguments alone, whoever asks beside it.
func TestManyAtOnce(t *testing.T) {
	p := pairOf(t, sample.Bytes(64))
	data := sample.Bytes(520)
	want := encrypted(t, p, 1, data)
	answers := make(chan []byte)
	for i := range 8 {
		go func() {
			for j := range 20 {
				p.Decrypt(uint64(i*j), data)
				p.Tweak(uint64(i), j)
			}
			b, _ := p.Encrypt(1, data)
			answers <- b
		}()
	}
	for range 8 {
		if got := <-answers; !bytes.Equal(got, want) {
			t.Error("Encrypt answers otherwise beside others")
		}
	}
}
