package sha

import (
	"bytes"
	standard "crypto/sha256"
	"encoding/binary"
	"encoding/hex"
	"math/big"
	"strings"
	"testing"

	"casket/sample"
)

func stateOf(source *sample.Source) [8]uint32 {
	var state [8]uint32
	for i := range state {
		state[i] = binary.BigEndian.Uint32(source.Bytes(4))
	}
	return state
}

func primes(count int) []int64 {
	var list []int64
	for n := int64(2); len(list) < count; n++ {
		if big.NewInt(n).ProbablyPrime(0) {
			list = append(list, n)
		}
	}
	return list
}

// rootBits is the first 32 bits of the fractional part of a root of n: the root of n times 2^(32 degree) is 2^32 times n's.
func rootBits(n int64, degree uint) uint32 {
	whole := new(big.Int).Lsh(big.NewInt(n), 32*degree)
	root := new(big.Int)
	for i := 40; i >= 0; i-- {
		root.SetBit(root, i, 1)
		if new(big.Int).Exp(root, big.NewInt(int64(degree)), nil).Cmp(whole) > 0 {
			root.SetBit(root, i, 0)
		}
	}
	return uint32(root.Uint64())
}

// cubeRoots are k(0) to k(63).
func cubeRoots() []uint32 {
	var list []uint32
	for _, prime := range primes(64) {
		list = append(list, rootBits(prime, 3))
	}
	return list
}

// wordedBlock is the state behind a piece as the chapter words it, bit by bit where it speaks of bits.
func wordedBlock(state [8]uint32, piece [64]byte, k []uint32) [8]uint32 {
	turn := func(n uint, x uint32) uint32 { return x>>n | x<<(32-n) }
	var w [64]uint32
	for t := range 16 {
		w[t] = binary.BigEndian.Uint32(piece[4*t:])
	}
	for t := 16; t < 64; t++ {
		s0 := turn(7, w[t-15]) ^ turn(18, w[t-15]) ^ w[t-15]>>3
		s1 := turn(17, w[t-2]) ^ turn(19, w[t-2]) ^ w[t-2]>>10
		w[t] = w[t-16] + s0 + w[t-7] + s1
	}
	v := state
	for t := range 64 {
		a, b, c, d, e, f, g, h := v[0], v[1], v[2], v[3], v[4], v[5], v[6], v[7]
		var choice, majority uint32
		for i := range 32 {
			bit := func(x uint32) uint32 { return x >> i & 1 }
			chosen := bit(g)
			if bit(e) == 1 {
				chosen = bit(f)
			}
			choice |= chosen << i
			if bit(a)+bit(b)+bit(c) >= 2 {
				majority |= 1 << i
			}
		}
		t1 := h + (turn(6, e) ^ turn(11, e) ^ turn(25, e)) + choice + k[t] + w[t]
		t2 := (turn(2, a) ^ turn(13, a) ^ turn(22, a)) + majority
		v = [8]uint32{t1 + t2, a, b, c, d + t1, e, f, g}
	}
	for i := range v {
		v[i] += state[i]
	}
	return v
}

// filled is the end of a message of so many bytes, filled as the chapter words it.
func filled(end []byte, length int) []byte {
	list := append(bytes.Clone(end), 0x80)
	for (len(list)+8)%64 != 0 {
		list = append(list, 0)
	}
	return binary.BigEndian.AppendUint64(list, uint64(length)<<3)
}

// behind is the first state behind whole pieces.
func behind(pieces []byte) [8]uint32 {
	state := First()
	for ; len(pieces) > 0; pieces = pieces[64:] {
		state = Block(state, [64]byte(pieces))
	}
	return state
}

func digestOf(state [8]uint32) [32]byte {
	var list []byte
	for _, word := range state {
		list = binary.BigEndian.AppendUint32(list, word)
	}
	return [32]byte(list)
}

// P4.1: the chapter's example, and those of the standard.
func TestExamples(t *testing.T) {
	for message, want := range map[string]string{
		"abc": "ba7816bf8f01cfea414140de5dae2223b00361a396177a9cb410ff61f20015ad",
		"":    "e3b0c44298fc1c149afbf4c8996fb92427ae41e4649b934ca495991b7852b855",
		"abcdbcdecdefdefgefghfghighijhijkijkljklmklmnlmnomnopnopq": "248d6a61d20638b8e5c026930c3e6039a33ce45964ff2167f6ecedd419db06c1",
		strings.Repeat("a", 1000000):                               "cdc76e5c9914fb9281a1c7e284d73e67f1809a48a497200e046d39ccc7112cd0",
	} {
		got := Sum([]byte(message))
		if hex.EncodeToString(got[:]) != want {
			t.Errorf("Sum of %d bytes: %x, not %s", len(message), got, want)
		}
	}
	if Sum(nil) != Sum([]byte{}) {
		t.Error("nil and the empty list have two digests")
	}
}

// P4.1
func TestAgainstStandard(t *testing.T) {
	source := sample.Source(1)
	for n := range 700 {
		for _, b := range [][]byte{make([]byte, n), bytes.Repeat([]byte{0xff}, n), source.Bytes(n)} {
			if got, want := Sum(b), standard.Sum256(b); got != want {
				t.Fatalf("Sum of %d bytes: %x, not %x", n, got, want)
			}
		}
	}
	for _, n := range []int{4096, 1 << 16, 1<<20 - 1, 1 << 20, 1<<20 + 57} {
		b := source.Bytes(n)
		if got, want := Sum(b), standard.Sum256(b); got != want {
			t.Errorf("Sum of %d bytes: %x, not %x", n, got, want)
		}
	}
}

// P4.1
func TestFirst(t *testing.T) {
	for i, prime := range primes(8) {
		if got, want := First()[i], rootBits(prime, 2); got != want {
			t.Errorf("word %d of the first state: %x, not %x", i, got, want)
		}
	}
	changed := First()
	clear(changed[:])
	if First() == changed {
		t.Error("a caller has changed the first state")
	}
}

// P4.1
func TestConstants(t *testing.T) {
	for i, want := range cubeRoots() {
		if constants[i] != want {
			t.Errorf("constant %d: %x, not %x", i, constants[i], want)
		}
	}
}

// P4.1
func TestBlock(t *testing.T) {
	source := sample.Source(2)
	ones := [8]uint32{1<<32 - 1, 1<<32 - 1, 1<<32 - 1, 1<<32 - 1, 1<<32 - 1, 1<<32 - 1, 1<<32 - 1, 1<<32 - 1}
	states := [][8]uint32{{}, ones, First()}
	pieces := [][64]byte{{}, [64]byte(bytes.Repeat([]byte{0xff}, 64))}
	for range 20 {
		states = append(states, stateOf(&source))
		pieces = append(pieces, [64]byte(source.Bytes(64)))
	}
	k := cubeRoots()
	for _, state := range states {
		for _, piece := range pieces {
			if got, want := Block(state, piece), wordedBlock(state, piece, k); got != want {
				t.Fatalf("Block(%x, %x) = %x, not %x", state, piece, got, want)
			}
		}
	}
}

// P4.1: a digest is the last of the states, piece by piece, of the message, filled.
func TestSumIsOfBlocks(t *testing.T) {
	source := sample.Source(3)
	for n := range 200 {
		b := source.Bytes(n)
		if got, want := Sum(b), digestOf(behind(filled(b, n))); got != want {
			t.Errorf("Sum of %d bytes: %x, not %x", n, got, want)
		}
	}
}

// P4.1: how many bits there are is told by all of 8 bytes. (That many bytes are not handed in here: what a Hash has counted is set.)
func TestManyBits(t *testing.T) {
	for _, length := range []int{1 << 29, 1<<29 + 3, 1<<31 - 1, 0x0123456789abcdef} {
		rest := sample.Bytes(length % 64)
		h := New()
		h.Write(rest)
		h.length = length
		if got, want := h.Sum(), digestOf(behind(filled(rest, length))); got != want {
			t.Errorf("%d bytes: %x, not %x", length, got, want)
		}
	}
}

// P4.2
func TestNewIsOfNothing(t *testing.T) {
	h := New()
	if h.Len() != 0 || h.Sum() != standard.Sum256(nil) {
		t.Errorf("New: %d bytes, %x", h.Len(), h.Sum())
	}
	h.Write(nil)
	h.Write([]byte{})
	if h.Len() != 0 || h.Sum() != standard.Sum256(nil) {
		t.Errorf("behind nothing: %d bytes, %x", h.Len(), h.Sum())
	}
	h.Write([]byte("x"))
	if other := New(); other.Len() != 0 || other.Sum() != standard.Sum256(nil) {
		t.Error("a new Hash has what another one was given")
	}
}

// P4.2: each Sum is of all that came so far, asked once or twice, and more may come.
func TestSumOnTheWay(t *testing.T) {
	b := sample.Bytes(300)
	h := New()
	for n := range b {
		want := standard.Sum256(b[:n])
		for range 2 {
			if got := h.Sum(); got != want {
				t.Fatalf("Sum of %d bytes: %x, not %x", n, got, want)
			}
			if got := h.Len(); got != n {
				t.Fatalf("Len of %d bytes: %d", n, got)
			}
		}
		h.Write(b[n : n+1])
	}
}

// P4.2
func TestFork(t *testing.T) {
	b := sample.Bytes(400)
	digest := func(parts ...[]byte) [32]byte { return standard.Sum256(bytes.Join(parts, nil)) }
	for n := range 200 {
		h := New()
		h.Write(b[:n])
		f := h.Fork()
		if f == h || f.Len() != n || f.Sum() != digest(b[:n]) {
			t.Fatalf("the fork of %d bytes: %d bytes, %x", n, f.Len(), f.Sum())
		}
		f.Write(b[200:300])
		if h.Len() != n || h.Sum() != digest(b[:n]) {
			t.Fatalf("%d bytes: what the fork was given has come to the first", n)
		}
		h.Write(b[300:])
		if f.Len() != n+100 || f.Sum() != digest(b[:n], b[200:300]) {
			t.Fatalf("%d bytes: what the first was given has come to the fork", n)
		}
		g := f.Fork()
		g.Write(b[:1])
		if h.Sum() != digest(b[:n], b[300:]) || f.Sum() != digest(b[:n], b[200:300]) || g.Sum() != digest(b[:n], b[200:300], b[:1]) {
			t.Fatalf("%d bytes: the fork of a fork is not by itself", n)
		}
	}
}

// P4.2
func TestNilHash(t *testing.T) {
	var h *Hash
	h.Write(nil)
	h.Write(make([]byte, 100))
	if got := h.Sum(); got != [32]byte{} {
		t.Errorf("a nil Hash's digest is %x", got)
	}
	if got := h.Len(); got != 0 {
		t.Errorf("a nil Hash has %d bytes", got)
	}
	if got := h.Fork(); got != nil {
		t.Errorf("a nil Hash's fork is %v", got)
	}
}

// P4.3
func TestTwoPieces(t *testing.T) {
	b := sample.Bytes(260)
	for n := range 261 {
		want := standard.Sum256(b[:n])
		for cut := range n + 1 {
			h := New()
			h.Write(b[:cut])
			h.Write(b[cut:n])
			if h.Sum() != want || h.Len() != n {
				t.Fatalf("%d and %d bytes: %x, not %x", cut, n-cut, h.Sum(), want)
			}
		}
	}
}

// P4.3
func TestManyPieces(t *testing.T) {
	source := sample.Source(4)
	for range 300 {
		b := source.Bytes(source.Below(2000))
		want := standard.Sum256(b)
		h := New()
		for _, part := range source.Parts(b) {
			h.Write(part)
		}
		if h.Sum() != want || h.Len() != len(b) || Sum(b) != want {
			t.Fatalf("%d bytes in pieces: %x, not %x", len(b), h.Sum(), want)
		}
	}
}

// P4.3
func TestPiecesOfOneLength(t *testing.T) {
	b := sample.Bytes(64 * 65 * 6)
	want := standard.Sum256(b)
	for _, size := range []int{1, 3, 5, 64, 65, 128, 192} {
		h := New()
		for at := 0; at < len(b); at += size {
			h.Write(b[at : at+size])
		}
		if h.Sum() != want {
			t.Errorf("pieces of %d bytes: %x, not %x", size, h.Sum(), want)
		}
	}
}

// R3: what is handed in is neither changed nor kept, nor is the room behind its end.
func TestArgumentsAreLeftAlone(t *testing.T) {
	for n := range 150 {
		room := sample.Bytes(200)
		want := standard.Sum256(room[:n])
		h := New()
		h.Write(room[:n])
		if Sum(room[:n]) != want || h.Sum() != want {
			t.Fatalf("%d bytes: another digest", n)
		}
		if !bytes.Equal(room, sample.Bytes(200)) {
			t.Fatalf("%d bytes: they have changed", n)
		}
		clear(room)
		if h.Sum() != want {
			t.Fatalf("%d bytes: the Hash hangs on the caller's bytes", n)
		}
	}
}
