package seal

import (
	"bytes"
	"crypto/aes"
	"crypto/hmac"
	"crypto/sha256"
	"encoding/binary"
	"math"
	"slices"
	"testing"

	"casket/api"
	"casket/sample"
)

// wild are numbers that no sector has, and no epoch.
var wild = []int{math.MinInt, math.MinInt + 1, math.MinInt32, -1 << 32, -1<<32 + 1, -1024, -8, -1, 1 << 32, 1<<32 + 1, 1<<33 + 5, math.MaxInt - 7, math.MaxInt}

// epochs are numbers that epochs have.
var epochs = []int{1, 2, 9, 255, 256, 1<<16 - 1, 1 << 16, 1<<31 - 1, 1 << 31, 1<<32 - 2, 1<<32 - 1}

// places are numbers that sectors have.
var places = []int{0, 1, 7, 8, 255, 256, 511, 1022, 1023}

// anyKeys are of an epoch.
func anyKeys(source *sample.Source, epoch int) api.EpochKeys {
	return api.EpochKeys{Epoch: epoch, Data: [32]byte(source.Bytes(32)), Tag: [32]byte(source.Bytes(32))}
}

// little is x in so many bytes, the lowest first.
func little(size, x int) []byte {
	return binary.LittleEndian.AppendUint64(nil, uint64(x))[:size]
}

// tagOf is the library's.
func tagOf(key []byte, message ...[]byte) []byte {
	h := hmac.New(sha256.New, key)
	h.Write(slices.Concat(message...))
	return h.Sum(nil)
}

// wordedCipher is 512 bytes enciphered as chapter 3 words it, by the library's cipher.
func wordedCipher(key [32]byte, n int, plain []byte) []byte {
	blocks, _ := aes.NewCipher(key[:16])
	tweaks, _ := aes.NewCipher(key[16:])
	tweak := make([]byte, 16)
	binary.LittleEndian.PutUint64(tweak, uint64(n))
	tweaks.Encrypt(tweak, tweak)
	var sealed []byte
	for block := range slices.Chunk(plain, 16) {
		block = bytes.Clone(block)
		add(block, tweak)
		blocks.Encrypt(block, block)
		add(block, tweak)
		sealed = append(sealed, block...)
		double(tweak)
	}
	return sealed
}

func add(block, other []byte) {
	for i := range block {
		block[i] ^= other[i]
	}
}

// double multiplies a tweak by x in its field.
func double(tweak []byte) {
	carry := byte(0)
	for i, b := range tweak {
		tweak[i] = b<<1 | carry
		carry = b >> 7
	}
	tweak[0] ^= carry * 0x87
}

// wordedRecord is the record of sealed bytes.
func wordedRecord(k api.EpochKeys, n int, sealed []byte) [64]byte {
	var record [64]byte
	tag := tagOf(k.Tag[:], []byte("sector"), little(4, k.Epoch), little(4, n), sealed)
	copy(record[:], append(little(4, k.Epoch), tag...))
	return record
}

// wordedSeal is what Seal should tell.
func wordedSeal(k api.EpochKeys, n int, plain []byte) ([]byte, [64]byte, api.Errno) {
	if k.Epoch < 1 || k.Epoch > 1<<32-1 || n < 0 || n > 1023 {
		return nil, [64]byte{}, api.ErrArg
	}
	if len(plain) != 512 {
		return nil, [64]byte{}, api.ErrSize
	}
	sealed := wordedCipher(k.Data, n, plain)
	return sealed, wordedRecord(k, n, sealed), api.OK
}

// seals holds Seal against the words, and opens again what was sealed.
func seals(t *testing.T, k api.EpochKeys, n int, plain []byte) api.Errno {
	t.Helper()
	want, wantRecord, f := wordedSeal(k, n, plain)
	sealed, record, e := Seal(k, n, plain)
	if e != f || record != wantRecord || !bytes.Equal(sealed, want) {
		t.Fatalf("Seal of %d bytes, epoch %d, place %d: %x, %x, %d, not %x, %x, %d", len(plain), k.Epoch, n, sealed, record, e, want, wantRecord, f)
	}
	if e == api.OK {
		if b, e := Open(k, n, sealed, record); e != api.OK || !bytes.Equal(b, plain) {
			t.Errorf("Open, epoch %d, place %d: %d, or other bytes", k.Epoch, n, e)
		}
	}
	return e
}

// P18.1, P18.4: sectors that may be sealed, and what was sealed is opened.
func TestSealAndOpen(t *testing.T) {
	source := sample.Source(1)
	for _, epoch := range epochs {
		for _, n := range places {
			if e := seals(t, anyKeys(&source, epoch), n, source.Bytes(512)); e != api.OK {
				t.Errorf("epoch %d, place %d: %d", epoch, n, e)
			}
		}
	}
	for n := range 1024 {
		seals(t, anyKeys(&source, 1+source.Below(1<<31)), n, source.Bytes(512))
	}
	for _, plain := range [][]byte{make([]byte, 512), bytes.Repeat([]byte{255}, 512)} {
		seals(t, api.EpochKeys{Epoch: 1}, 0, plain)
		seals(t, api.EpochKeys{Epoch: 1}, 1023, plain)
	}
}

// P18.1: where the parts of a record are.
func TestRecordBytes(t *testing.T) {
	source := sample.Source(2)
	k := anyKeys(&source, 0x81020304)
	sealed, record, e := Seal(k, 0x0305, source.Bytes(512))
	if e != api.OK {
		t.Fatal(e)
	}
	message := append([]byte("sector\x04\x03\x02\x81\x05\x03\x00\x00"), sealed...)
	if !bytes.Equal(record[:4], []byte{4, 3, 2, 0x81}) || !bytes.Equal(record[4:36], tagOf(k.Tag[:], message)) || !bytes.Equal(record[36:], make([]byte, 28)) {
		t.Errorf("%x", record)
	}
}

// P18.1: what Seal and Open refuse, in order.
func TestSealIsRefused(t *testing.T) {
	source := sample.Source(3)
	k := anyKeys(&source, 9)
	plain := source.Bytes(512)
	_, record, _ := Seal(k, 5, plain)
	refused := func(what string, k api.EpochKeys, n int, b []byte, want api.Errno) {
		t.Helper()
		if sealed, record, e := Seal(k, n, b); len(sealed) != 0 || record != [64]byte{} || e != want {
			t.Errorf("%s: Seal: %d, not %d", what, e, want)
		}
		for _, r := range [][64]byte{{}, record} {
			if b, e := Open(k, n, b, r); len(b) != 0 || e != want {
				t.Errorf("%s: Open: %d, not %d", what, e, want)
			}
		}
	}
	for _, n := range append([]int{1024, 1025, 4096}, wild...) {
		refused("no such place", k, n, plain, api.ErrArg)
		refused("no such place, of another length", k, n, nil, api.ErrArg)
	}
	for _, epoch := range append([]int{0}, wild...) {
		other := k
		other.Epoch = epoch
		refused("no such epoch", other, 5, plain, api.ErrArg)
		refused("no such epoch, of another length", other, 5, plain[:511], api.ErrArg)
	}
	for _, size := range []int{0, 1, 16, 496, 511, 513, 528, 1024} {
		refused("of another length", k, 5, source.Bytes(size), api.ErrSize)
	}
}

// opensNot asks that a sector is not what was written.
func opensNot(t *testing.T, what string, k api.EpochKeys, n int, sealed []byte, record [64]byte) {
	t.Helper()
	if b, e := Open(k, n, sealed, record); len(b) != 0 || e != api.ErrIntegrity {
		t.Errorf("%s: %d bytes, %d", what, len(b), e)
	}
}

// P18.1: each bit of a record, and of the sealed bytes.
func TestOpenOfEachBit(t *testing.T) {
	source := sample.Source(4)
	k := anyKeys(&source, 0x01010101)
	sealed, record, _ := Seal(k, 77, source.Bytes(512))
	for bit := range 512 {
		other := record
		other[bit/8] ^= 1 << (bit % 8)
		opensNot(t, "a bit of the record", k, 77, sealed, other)
	}
	for bit := range 4096 {
		other := bytes.Clone(sealed)
		other[bit/8] ^= 1 << (bit % 8)
		opensNot(t, "a bit of the sector", k, 77, other, record)
	}
	opensNot(t, "a record of zeros", k, 77, sealed, [64]byte{})
	opensNot(t, "zeros", k, 77, make([]byte, 512), [64]byte{})
}

// P18.4: under another number, or another epoch's keys.
func TestOpenElsewhere(t *testing.T) {
	source := sample.Source(5)
	k := anyKeys(&source, 70000)
	sealed, record, _ := Seal(k, 300, source.Bytes(512))
	for n := range 1024 {
		if n != 300 {
			opensNot(t, "another number", k, n, sealed, record)
			_, other, _ := Seal(k, n, sealed)
			opensNot(t, "another number's record", k, 300, sealed, other)
		}
	}
	for _, epoch := range epochs {
		other := k
		other.Epoch = epoch
		opensNot(t, "another epoch", other, 300, sealed, record)
		// The number in the record is not enough.
		forged := record
		copy(forged[:4], little(4, epoch))
		opensNot(t, "another epoch in the record too", other, 300, sealed, forged)
	}
	for bit := range 256 {
		other := k
		other.Tag[bit/8] ^= 1 << (bit % 8)
		opensNot(t, "another key of tags", other, 300, sealed, record)
	}
}

// P18.4: the tag alone decides: with another key of data the bytes are opened, and are others.
func TestOpenWithAnotherKeyOfData(t *testing.T) {
	source := sample.Source(6)
	k := anyKeys(&source, 3)
	plain := source.Bytes(512)
	sealed, record, _ := Seal(k, 30, plain)
	for bit := range 256 {
		other := k
		other.Data[bit/8] ^= 1 << (bit % 8)
		b, e := Open(other, 30, sealed, record)
		if e != api.OK || bytes.Equal(b, plain) || !bytes.Equal(wordedCipher(other.Data, 30, b), sealed) {
			t.Errorf("bit %d: %d", bit, e)
		}
	}
}

// P18.1: any bytes that have the right record are opened, whoever made them.
func TestOpenOfAnyBytes(t *testing.T) {
	source := sample.Source(7)
	for range 100 {
		k := anyKeys(&source, epochs[source.Below(len(epochs))])
		n, sealed := source.Below(1024), source.Bytes(512)
		b, e := Open(k, n, sealed, wordedRecord(k, n, sealed))
		if e != api.OK || !bytes.Equal(wordedCipher(k.Data, n, b), sealed) {
			t.Errorf("epoch %d, place %d: %d", k.Epoch, n, e)
		}
	}
}

// P18.1, P18.2: the chapter's example.
func TestExample(t *testing.T) {
	record, e := Record(make([]byte, 512), 5)
	if record != [64]byte{} || e != api.OK {
		t.Errorf("Record(zeros, 5): %x, %d", record, e)
	}
	if epoch, e := Epoch(record); epoch != 0 || e != api.OK {
		t.Errorf("Epoch: %d, %d", epoch, e)
	}
}

// P18.1: a record's epoch, whatever stands behind it; none, if it is 0 and something else is not.
func TestEpoch(t *testing.T) {
	source := sample.Source(8)
	for _, want := range epochs {
		for _, rest := range [][]byte{make([]byte, 60), source.Bytes(60), bytes.Repeat([]byte{255}, 60)} {
			record := [64]byte(append(little(4, want), rest...))
			if got, e := Epoch(record); got != want || e != api.OK {
				t.Errorf("%d, %d, not %d", got, e, want)
			}
		}
		_, record, _ := Seal(anyKeys(&source, want), 8, source.Bytes(512))
		if got, e := Epoch(record); got != want || e != api.OK {
			t.Errorf("sealed: %d, %d, not %d", got, e, want)
		}
	}
	for bit := range 512 {
		var record [64]byte
		record[bit/8] = 1 << (bit % 8)
		want, wantE := 0, api.ErrIntegrity
		if bit < 32 {
			want, wantE = 1<<bit, api.OK
		}
		if got, e := Epoch(record); got != want || e != wantE {
			t.Errorf("bit %d: %d, %d, not %d, %d", bit, got, e, want, wantE)
		}
	}
}

// P18.2: the record of a sector is at its number's place, modulo 8.
func TestRecordAndWith(t *testing.T) {
	source := sample.Source(9)
	tags := source.Bytes(512)
	for _, n := range []int{0, 1, 2, 3, 4, 5, 6, 7, 8, 9, 15, 16, 1023, 1024, 1 << 31, 1<<32 + 3, math.MaxInt - 7, math.MaxInt} {
		place := 64 * (n % 8)
		record, e := Record(tags, n)
		if e != api.OK || !bytes.Equal(record[:], tags[place:place+64]) {
			t.Errorf("Record(%d): %x, %d", n, record, e)
		}
		other := [64]byte(source.Bytes(64))
		want := slices.Concat(tags[:place], other[:], tags[place+64:])
		changed, e := With(tags, n, other)
		if e != api.OK || !bytes.Equal(changed, want) {
			t.Errorf("With(%d): %x, %d", n, changed, e)
		}
		for k := range 8 {
			got, e := Record(changed, k)
			if e != api.OK || k == n%8 && got != other || k != n%8 && !bytes.Equal(got[:], tags[64*k:64*k+64]) {
				t.Errorf("With(%d), Record(%d): %x, %d", n, k, got, e)
			}
		}
		if same, e := With(tags, n, record); e != api.OK || !bytes.Equal(same, tags) {
			t.Errorf("With(%d) of the same: %d", n, e)
		}
	}
}

// P18.2: what Record and With refuse, in order.
func TestRecordIsRefused(t *testing.T) {
	refused := func(tags []byte, n int, want api.Errno) {
		t.Helper()
		if r, e := Record(tags, n); r != [64]byte{} || e != want {
			t.Errorf("Record of %d bytes, %d: %d, not %d", len(tags), n, e, want)
		}
		if b, e := With(tags, n, [64]byte{1}); len(b) != 0 || e != want {
			t.Errorf("With of %d bytes, %d: %d, not %d", len(tags), n, e, want)
		}
	}
	for _, n := range []int{-1, -2, -7, -8, -9, -512, math.MinInt32, math.MinInt + 8, math.MinInt} {
		for _, size := range []int{0, 511, 512} {
			refused(sample.Bytes(size), n, api.ErrArg)
		}
	}
	for _, size := range []int{0, 1, 63, 64, 448, 511, 513, 1024} {
		for _, n := range []int{0, 5, 7, 8, math.MaxInt} {
			refused(sample.Bytes(size), n, api.ErrSize)
		}
	}
	refused(nil, 0, api.ErrSize)
}

// R3: what is handed in is left alone.
func TestArgumentsAreLeftAlone(t *testing.T) {
	source := sample.Source(10)
	k := anyKeys(&source, 5)
	room := source.Bytes(1024)
	kept := bytes.Clone(room)
	b := room[:512]
	sealed, record, _ := Seal(k, 3, b)
	sealedRoom := append(bytes.Clone(sealed), kept...)
	Open(k, 3, sealedRoom[:512], record)
	Record(b, 3)
	With(b, 3, record)
	ReadRoot([32]byte{}, usual(), b)
	if !bytes.Equal(room, kept) || !bytes.Equal(sealedRoom, append(bytes.Clone(sealed), kept...)) {
		t.Error("an argument was changed")
	}
}

// R3: answers are new memory.
func TestAnswersAreNew(t *testing.T) {
	source := sample.Source(11)
	k := anyKeys(&source, 5)
	plain := append(source.Bytes(512), 1, 2, 3)[:512]
	sealed, record, _ := Seal(k, 3, plain)
	for name, ask := range map[string]func() []byte{
		"Seal":      func() []byte { b, _, _ := Seal(k, 3, plain); return b },
		"Open":      func() []byte { b, _ := Open(k, 3, sealed, record); return b },
		"With":      func() []byte { b, _ := With(plain, 3, record); return b },
		"RootBlock": func() []byte { b, _ := RootBlock(k.Tag, usual(), api.Root{}); return b },
	} {
		if len(ask()) != 512 {
			t.Errorf("%s: %d bytes", name, len(ask()))
		}
		if wrong := sample.NotNew(ask); wrong != "" {
			t.Errorf("%s: %s", name, wrong)
		}
	}
}
