package seal

import (
	"bytes"
	"encoding/binary"
	"math"
	"slices"
	"testing"

	"casket/api"
	"casket/sample"
)

// usual is a header that may be.
func usual() api.Head {
	return api.Head{Generation: 7, Sectors: 0x301, Slots: 3, Journal: 40, Segment: 5, Params: api.Params{Time: 2, Memory: 20, Lanes: 2}, Name: [16]byte([]byte("sixteen letters."))}
}

// wrong are headers that may not be.
func wrong() []api.Head {
	return sample.WrongHeads(usual())
}

// wordedBlock is a root's block as the chapter words it, whether the root may be or not.
func wordedBlock(key [32]byte, h api.Head, r api.Root) []byte {
	b := binary.LittleEndian.AppendUint64([]byte("ROOT"), r.Counter)
	if r.Rekeying {
		b = append(b, 1)
	} else {
		b = append(b, 0)
	}
	b = append(b, little(4, r.Frontier)...)
	return tagged(key, h, append(b, r.Tree[:]...))
}

// tagged is a block that begins with 49 bytes, with their tag behind them.
func tagged(key [32]byte, h api.Head, ahead []byte) []byte {
	block := make([]byte, 512)
	copy(block, append(bytes.Clone(ahead), tagOf(key[:], ahead, h.Name[:], little(4, h.Sectors))...))
	return block
}

// wordedMay tells whether a root may be of a header.
func wordedMay(h api.Head, r api.Root) bool {
	return r.Frontier >= 0 && r.Frontier <= h.Sectors && (r.Rekeying || r.Frontier == 0)
}

// says is what a block says of a root, as the chapter words it, and whether it is a root's block.
func says(key [32]byte, h api.Head, b []byte) (api.Root, api.Errno) {
	if len(b) != 512 || b[12] > 1 {
		return api.Root{}, api.ErrIntegrity
	}
	r := api.Root{Counter: binary.LittleEndian.Uint64(b[4:]), Rekeying: b[12] == 1, Frontier: int(binary.LittleEndian.Uint32(b[13:])), Tree: [32]byte(b[17:])}
	if !wordedMay(h, r) || !bytes.Equal(b, wordedBlock(key, h, r)) {
		return api.Root{}, api.ErrIntegrity
	}
	return r, api.OK
}

// reads holds ReadRoot against the words.
func reads(t *testing.T, what string, key [32]byte, h api.Head, b []byte) api.Errno {
	t.Helper()
	want, f := says(key, h, b)
	if got, e := ReadRoot(key, h, b); got != want || e != f {
		t.Errorf("%s: ReadRoot: %+v, %d, not %+v, %d", what, got, e, want, f)
	}
	return f
}

// makes holds RootBlock against the words, and reads the block again.
func makes(t *testing.T, key [32]byte, h api.Head, r api.Root) api.Errno {
	t.Helper()
	b, e := RootBlock(key, h, r)
	if !wordedMay(h, r) {
		if len(b) != 0 || e != api.ErrArg {
			t.Errorf("%+v may not be: %d", r, e)
		}
		return api.ErrArg
	}
	if e != api.OK || !bytes.Equal(b, wordedBlock(key, h, r)) {
		t.Errorf("%+v: %x, %d", r, b, e)
	}
	if got, e := ReadRoot(key, h, b); e != api.OK || got != r {
		t.Errorf("%+v is read as %+v, %d", r, got, e)
	}
	return api.OK
}

// P18.3: where the parts of a root's block are.
func TestRootBlockBytes(t *testing.T) {
	key := [32]byte(sample.Bytes(32))
	h := usual()
	b, e := RootBlock(key, h, api.Root{Counter: 0x0807060504030201, Rekeying: true, Frontier: 0x201, Tree: [32]byte(bytes.Repeat([]byte{9}, 32))})
	if e != api.OK || len(b) != 512 {
		t.Fatalf("%d bytes, %d", len(b), e)
	}
	ahead := append([]byte("ROOT\x01\x02\x03\x04\x05\x06\x07\x08\x01\x01\x02\x00\x00"), bytes.Repeat([]byte{9}, 32)...)
	tag := tagOf(key[:], ahead, []byte("sixteen letters."), []byte{1, 3, 0, 0})
	if !bytes.Equal(b, slices.Concat(ahead, tag, make([]byte, 512-81))) {
		t.Errorf("%x", b)
	}
}

// P18.3: roots that may be, and that may not; what was made is read.
func TestRootBlock(t *testing.T) {
	source := sample.Source(1)
	met := map[api.Errno]int{}
	for _, sectors := range []int{1, 2, 100, 1023, 1024} {
		h := usual()
		h.Sectors = sectors
		frontiers := []int{0, 1, sectors / 2, sectors - 1, sectors, sectors + 1, 1024, 1025, -1, -2, 1<<32 - 1, 1 << 32, 1<<32 + 1, -1<<32 + 1, math.MinInt, math.MaxInt}
		for _, frontier := range frontiers {
			for _, counter := range []uint64{0, 1, 255, 1 << 32, 1 << 63, math.MaxUint64} {
				for _, rekeying := range []bool{false, true} {
					r := api.Root{Counter: counter, Rekeying: rekeying, Frontier: frontier, Tree: [32]byte(source.Bytes(32))}
					met[makes(t, [32]byte(source.Bytes(32)), h, r)]++
				}
			}
		}
	}
	if met[api.OK] < 100 || met[api.ErrArg] < 100 {
		t.Errorf("how many may be, and may not: %v", met)
	}
}

// P18.3: headers that may not be, ahead of all else.
func TestRootOfAWrongHeader(t *testing.T) {
	key := [32]byte{1}
	for _, h := range wrong() {
		for _, r := range []api.Root{{}, {Frontier: 1}, {Rekeying: true, Frontier: 5000}} {
			if b, e := RootBlock(key, h, r); len(b) != 0 || e != api.ErrArg {
				t.Errorf("RootBlock of %+v: %d", h, e)
			}
			for _, b := range [][]byte{nil, make([]byte, 512), wordedBlock(key, h, r)} {
				if r, e := ReadRoot(key, h, b); r != (api.Root{}) || e != api.ErrArg {
					t.Errorf("ReadRoot of %+v: %d", h, e)
				}
			}
		}
	}
}

// P18.3: each bit of a root's block.
func TestReadRootOfEachBit(t *testing.T) {
	source := sample.Source(2)
	h := usual()
	for _, r := range []api.Root{{Counter: 3, Tree: [32]byte(source.Bytes(32))}, {Counter: 1 << 40, Rekeying: true, Frontier: 0x201}} {
		key := [32]byte(source.Bytes(32))
		b := wordedBlock(key, h, r)
		if reads(t, "as it is", key, h, b) != api.OK {
			t.Fatal("the words refuse it")
		}
		for bit := range 4096 {
			other := bytes.Clone(b)
			other[bit/8] ^= 1 << (bit % 8)
			if reads(t, "a bit", key, h, other) == api.OK {
				t.Errorf("bit %d", bit)
			}
		}
	}
}

// P18.3: blocks whose tag is right, and that are no root's all the same.
func TestReadRootOfWrongRoots(t *testing.T) {
	source := sample.Source(3)
	h := usual()
	key := [32]byte(source.Bytes(32))
	r := api.Root{Counter: 9, Rekeying: true, Frontier: 6, Tree: [32]byte(source.Bytes(32))}
	right := wordedBlock(key, h, r)[:49]
	for bit := range 8 * 49 {
		ahead := bytes.Clone(right)
		ahead[bit/8] ^= 1 << (bit % 8)
		e := reads(t, "tagged anew", key, h, tagged(key, h, ahead))
		if bit < 32 && e == api.OK || bit >= 8*17 && e != api.OK {
			t.Errorf("bit %d: %d", bit, e)
		}
	}
	for flag := range 256 {
		for _, frontier := range []int{0, 1, 6, h.Sectors, h.Sectors + 1, 1024, 1<<31 + 1, 1<<32 - 1} {
			ahead := bytes.Clone(right)
			ahead[12] = byte(flag)
			copy(ahead[13:], little(4, frontier))
			e := reads(t, "a flag and a frontier", key, h, tagged(key, h, ahead))
			if may := flag == 0 && frontier == 0 || flag == 1 && frontier <= h.Sectors; may != (e == api.OK) {
				t.Errorf("flag %d, frontier %d: %d", flag, frontier, e)
			}
		}
	}
	for _, mark := range []string{"root", "SLOT", "KEYS", "\x00\x00\x00\x00"} {
		if e := reads(t, "another mark", key, h, tagged(key, h, append([]byte(mark), right[4:]...))); e == api.OK {
			t.Errorf("the mark %q", mark)
		}
	}
	for at := 81; at < 512; at++ {
		b := tagged(key, h, right)
		b[at] = 1
		if reads(t, "something behind the tag", key, h, b) == api.OK {
			t.Errorf("byte %d", at)
		}
	}
}

// P18.3: blocks of another length, and none.
func TestReadRootOfOtherLengths(t *testing.T) {
	h := usual()
	key := [32]byte{5}
	b := append(wordedBlock(key, h, api.Root{Counter: 4}), make([]byte, 512)...)
	for _, size := range []int{0, 1, 4, 48, 49, 80, 81, 82, 511, 513, 1024} {
		if reads(t, "another length", key, h, b[:size]) == api.OK {
			t.Errorf("%d bytes", size)
		}
	}
	reads(t, "none", key, h, nil)
	reads(t, "zeros", key, h, make([]byte, 512))
	source := sample.Source(4)
	for range 50 {
		reads(t, "anything", key, h, source.Bytes(512))
	}
}

// P18.3: under another key, or another header: its Name and its Sectors are what counts.
func TestReadRootOfAnother(t *testing.T) {
	source := sample.Source(5)
	key := [32]byte(source.Bytes(32))
	r := api.Root{Counter: 1, Rekeying: true, Frontier: 5, Tree: [32]byte(source.Bytes(32))}
	b, _ := RootBlock(key, usual(), r)
	for bit := range 256 {
		other := key
		other[bit/8] ^= 1 << (bit % 8)
		if got, e := ReadRoot(other, usual(), b); got != (api.Root{}) || e != api.ErrIntegrity {
			t.Errorf("bit %d of the key: %d", bit, e)
		}
	}
	for bit := range 128 {
		h := usual()
		h.Name[bit/8] ^= 1 << (bit % 8)
		if got, e := ReadRoot(key, h, b); got != (api.Root{}) || e != api.ErrIntegrity {
			t.Errorf("bit %d of the name: %d", bit, e)
		}
	}
	for sectors := 1; sectors <= 1024; sectors++ {
		h := usual()
		h.Sectors = sectors
		if reads(t, "other sectors", key, h, b) == api.OK && sectors != usual().Sectors {
			t.Errorf("%d sectors", sectors)
		}
	}
	h := usual()
	h.Generation, h.Slots, h.Journal, h.Segment, h.Params = 99, 8, 256, 16, api.Params{Time: 1, Memory: 8, Lanes: 1}
	if got, e := ReadRoot(key, h, b); got != r || e != api.OK {
		t.Errorf("what the tag is not of: %d", e)
	}
}
