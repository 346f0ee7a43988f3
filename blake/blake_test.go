package blake

import (
	"bytes"
	"crypto/sha256"
	"encoding/binary"
	"encoding/hex"
	"math"
	"math/big"
	"strings"
	"testing"

	"casket/api"
	"casket/sample"
)

// sumOf is a digest that is not refused.
func sumOf(t *testing.T, n int, key []byte, message ...[]byte) []byte {
	t.Helper()
	b, e := Sum(n, key, message...)
	if e != api.OK || len(b) != n {
		t.Fatalf("Sum of %d bytes, key of %d: %d bytes, %d", n, len(key), len(b), e)
	}
	return b
}

func hashOf(t *testing.T, n int, key []byte) *Hash {
	t.Helper()
	h, e := New(n, key)
	if e != api.OK || h == nil {
		t.Fatalf("New of %d bytes, key of %d: %v, %d", n, len(key), h, e)
	}
	return h
}

func rising(count int) []byte {
	list := make([]byte, count)
	for i := range list {
		list[i] = byte(i)
	}
	return list
}

// firstWords are the roots of the first 8 primes: that of a prime times 2^128 is 2^64 times the prime's.
func firstWords() [8]uint64 {
	var words [8]uint64
	for i, prime := range []int64{2, 3, 5, 7, 11, 13, 17, 19} {
		root := new(big.Int).Lsh(big.NewInt(prime), 128)
		root.Sqrt(root)
		words[i] = root.And(root, new(big.Int).SetUint64(math.MaxUint64)).Uint64()
	}
	return words
}

// standardOrders are the orders as the standard writes them.
var standardOrders = [12][16]int{
	{0, 1, 2, 3, 4, 5, 6, 7, 8, 9, 10, 11, 12, 13, 14, 15},
	{14, 10, 4, 8, 9, 15, 13, 6, 1, 12, 0, 2, 11, 7, 5, 3},
	{11, 8, 12, 0, 5, 2, 15, 13, 10, 14, 3, 6, 7, 1, 9, 4},
	{7, 9, 3, 1, 13, 12, 11, 14, 2, 6, 5, 10, 4, 0, 15, 8},
	{9, 0, 5, 7, 2, 4, 10, 15, 14, 1, 11, 12, 6, 8, 3, 13},
	{2, 12, 6, 10, 0, 11, 8, 3, 4, 13, 7, 5, 15, 14, 1, 9},
	{12, 5, 1, 15, 14, 13, 4, 10, 0, 7, 6, 3, 9, 2, 8, 11},
	{13, 11, 7, 14, 12, 1, 3, 9, 5, 0, 15, 4, 8, 6, 2, 10},
	{6, 15, 14, 9, 11, 3, 0, 8, 12, 2, 13, 7, 1, 4, 10, 5},
	{10, 2, 8, 4, 7, 6, 1, 5, 15, 11, 9, 14, 3, 12, 13, 0},
	{0, 1, 2, 3, 4, 5, 6, 7, 8, 9, 10, 11, 12, 13, 14, 15},
	{14, 10, 4, 8, 9, 15, 13, 6, 1, 12, 0, 2, 11, 7, 5, 3},
}

// wordedPiece is the state behind a piece as the chapter words it.
func wordedPiece(h [8]uint64, m [128]byte, t uint64, last bool) [8]uint64 {
	first := firstWords()
	v := append(append([]uint64{}, h[:]...), first[:]...)
	v[12] ^= t
	if last {
		v[14] ^= math.MaxUint64
	}
	turn := func(n uint, x uint64) uint64 { return x>>n | x<<(64-n) }
	for r := range 12 {
		word := func(i int) uint64 { return binary.LittleEndian.Uint64(m[8*standardOrders[r][i]:]) }
		for k := range 8 {
			// Columns at first, then diagonals: each place is one further to the right than the one above it.
			step := k / 4
			a, b, c, d := &v[k%4], &v[4+(k+step)%4], &v[8+(k+2*step)%4], &v[12+(k+3*step)%4]
			*a = *a + *b + word(2*k)
			*d = turn(32, *d^*a)
			*c = *c + *d
			*b = turn(24, *b^*c)
			*a = *a + *b + word(2*k+1)
			*d = turn(16, *d^*a)
			*c = *c + *d
			*b = turn(63, *b^*c)
		}
	}
	for i := range h {
		h[i] ^= v[i] ^ v[i+8]
	}
	return h
}

// wordedSum is a digest as the chapter words it.
func wordedSum(n int, key, message []byte) []byte {
	h := firstWords()
	h[0] ^= 0x01010000
	h[0] ^= uint64(len(key)*256 + n)
	var all []byte
	if len(key) > 0 {
		all = append(append(all, key...), make([]byte, 128-len(key))...)
	}
	all = append(all, message...)
	count := max(1, (len(all)+127)/128)
	filled := append(bytes.Clone(all), make([]byte, 128*count-len(all))...)
	for i := range count {
		came := min(len(all), 128*(i+1))
		h = wordedPiece(h, [128]byte(filled[128*i:]), uint64(came), i == count-1)
	}
	var digest []byte
	for _, word := range h {
		digest = binary.LittleEndian.AppendUint64(digest, word)
	}
	return digest[:n]
}

func stateOf(source *sample.Source) [8]uint64 {
	var state [8]uint64
	for i := range state {
		state[i] = binary.LittleEndian.Uint64(source.Bytes(8))
	}
	return state
}

// P6.1: the chapter's example, and those of the standard and its authors.
func TestExamples(t *testing.T) {
	for _, x := range []struct {
		n            int
		key, message []byte
		want         string
	}{
		{64, nil, []byte("abc"), "ba80a53f981c4d0d6a2797b69f12f6e94c212f14685ac4b74b12bb6fdbffa2d17d87c5392aab792dc252d5de4533cc9518d38aa8dbf1925ab92386edd4009923"},
		{64, nil, nil, "786a02f742015903c6c6fd852552d272912f4740e15847618a86e217f71f5419d25e1031afee585313896444934eb04b903a685b1448b755d56f701afe9be2ce"},
		{64, rising(64), nil, "10ebb67700b1868efb4417987acf4690ae9d972fb7a590c2f02871799aaa4786b5e996e8f0f4eb981fc214b005f42d2ff4233499391653df7aefcbc13fc51568"},
		{64, rising(64), rising(3), "33d0825dddf7ada99b0e7e307104ad07ca9cfd9692214f1561356315e784f3e5a17e364ae9dbb14cb2036df932b77f4b292761365fb328de7afdc6d8998f5fc1"},
		{64, rising(64), rising(128), "72065ee4dd91c2d8509fa1fc28a37c7fc9fa7d5b3f8ad3d0d7a25626b57b1b44788d4caf806290425f9890a3a2a35a905ab4b37acfd0da6e4517b2525c9651e4"},
		{64, rising(64), rising(129), "64475dfe7600d7171bea0b394e27c9b00d8e74dd1e416a79473682ad3dfdbb706631558055cfc8a40e07bd015a4540dcdea15883cbbf31412df1de1cd4152b91"},
		{64, rising(64), rising(255), "142709d62e28fcccd0af97fad0f8465b971e82201dc51070faa0372aa43e92484be1c1e73ba10906d5d1853db6a4106e0a7bf9800d373d6dee2d46d62ef2a461"},
		{32, nil, nil, "0e5751c026e543b2e8ab2eb06099daa1d1e5df47778f7787faab45cdf12fe3a8"},
		{32, nil, []byte("abc"), "bddd813c634239723171ef3fee98579b94964e3bb1cb3e427262c8c068d52319"},
		{20, []byte("key"), rising(255), "fbd8d17ba75ea205747a3604b90fe2d0e2201764"},
		{1, nil, nil, "2e"},
		{1, []byte("key"), []byte("abc"), "de"},
		{64, nil, []byte(strings.Repeat("a", 1000000)), "98fb3efb7206fd19ebf69b6f312cf7b64e3b94dbe1a17107913975a793f177e1d077609d7fba363cbba00d05f7aa4e4fa8715d6428104c0a75643b0ff3fd3eaf"},
	} {
		if got := sumOf(t, x.n, x.key, x.message); hex.EncodeToString(got) != x.want {
			t.Errorf("%d bytes, key of %d, message of %d: %x, not %s", x.n, len(x.key), len(x.message), got, x.want)
		}
	}
}

// standardSequence are the bytes of the standard's own test.
func standardSequence(count int, seed uint32) []byte {
	list := make([]byte, count)
	a, b := 0xdead4bad*seed, uint32(1)
	for i := range list {
		a, b = b, a+b
		list[i] = byte(b >> 24)
	}
	return list
}

// P6.1: the standard's own test: a digest of digests, with keys and without.
func TestOfTheStandard(t *testing.T) {
	all := hashOf(t, 32, nil)
	for _, n := range []int{20, 32, 48, 64} {
		for _, count := range []int{0, 3, 128, 129, 255, 1024} {
			message, key := standardSequence(count, uint32(count)), standardSequence(n, uint32(n))
			all.Write(sumOf(t, n, nil, message))
			all.Write(sumOf(t, n, key, message))
		}
	}
	if got := hex.EncodeToString(all.Sum()); got != "c23a7800d98123bd10f506c61e29da5603d763b8bbad2e737f5e765a7bccd475" {
		t.Errorf("the digest of all digests: %s", got)
	}
}

// P6.1: all lengths of digests with all lengths of keys; the digest of them all is as the blake2b of Python's hashlib tells it.
func TestAllSizes(t *testing.T) {
	b := sample.Bytes(1200)
	all := sha256.New()
	for n := 1; n <= 64; n++ {
		for k := range 65 {
			key, message := b[100:100+k], b[:(n*7+k*5)%400]
			got := sumOf(t, n, key, message)
			if want := wordedSum(n, key, message); !bytes.Equal(got, want) {
				t.Fatalf("%d bytes, key of %d, message of %d: %x, not %x", n, k, len(message), got, want)
			}
			all.Write(got)
		}
	}
	if got := hex.EncodeToString(all.Sum(nil)); got != "0daaa53f7bfb6a37da3239928a64be6beb1e5b9208bfde279e77dc09031dd604" {
		t.Errorf("the digest of all digests: %s", got)
	}
}

// P6.1: all lengths of messages, about the ends of pieces too; likewise.
func TestAllLengths(t *testing.T) {
	b := sample.Bytes(1200)
	all := sha256.New()
	for n := range b {
		for _, x := range []struct {
			size int
			key  []byte
		}{{64, nil}, {32, b[:32]}} {
			got := sumOf(t, x.size, x.key, b[:n])
			if want := wordedSum(x.size, x.key, b[:n]); !bytes.Equal(got, want) {
				t.Fatalf("message of %d bytes: %x, not %x", n, got, want)
			}
			all.Write(got)
		}
	}
	if got := hex.EncodeToString(all.Sum(nil)); got != "4dfa880a73e5794bb76537ec401c90d6e2906864d7f239c9b58773235808fa6d" {
		t.Errorf("the digest of all digests: %s", got)
	}
}

// P6.1
func TestFirst(t *testing.T) {
	if got, want := First(), firstWords(); got != want {
		t.Errorf("the first words: %x, not %x", got, want)
	}
	changed := First()
	clear(changed[:])
	if First() == changed {
		t.Error("a caller has changed the first words")
	}
}

// P6.1
func TestOrders(t *testing.T) {
	for r, want := range standardOrders {
		if got := order(r); got != want {
			t.Errorf("order of round %d: %v, not %v", r, got, want)
		}
	}
}

// P6.1
func TestPiece(t *testing.T) {
	source := sample.Source(2)
	var ones [8]uint64
	for i := range ones {
		ones[i] = math.MaxUint64
	}
	states := [][8]uint64{{}, ones, First()}
	pieces := [][128]byte{{}, [128]byte(bytes.Repeat([]byte{0xff}, 128)), [128]byte(rising(128))}
	for range 8 {
		states = append(states, stateOf(&source))
		pieces = append(pieces, [128]byte(source.Bytes(128)))
	}
	for _, h := range states {
		for _, m := range pieces {
			for _, came := range []uint64{0, 1, 128, 1 << 32, 0x0123456789abcdef, 1 << 63, math.MaxUint64} {
				for _, last := range []bool{false, true} {
					if got, want := Piece(h, m, came, last), wordedPiece(h, m, came, last); got != want {
						t.Fatalf("Piece(%x, %x, %d, %v) = %x, not %x", h, m, came, last, got, want)
					}
				}
			}
		}
	}
}

// P6.1: a digest is the last of the states, piece by piece.
func TestSumIsOfPieces(t *testing.T) {
	key, b := sample.Bytes(40), sample.Bytes(300)
	h := First()
	h[0] ^= 0x01010000 ^ 40*256 ^ 64
	h = Piece(h, [128]byte(append(bytes.Clone(key), make([]byte, 88)...)), 128, false)
	h = Piece(h, [128]byte(b), 256, false)
	h = Piece(h, [128]byte(b[128:]), 384, false)
	h = Piece(h, [128]byte(append(bytes.Clone(b[256:]), make([]byte, 84)...)), 428, true)
	var want []byte
	for _, word := range h {
		want = binary.LittleEndian.AppendUint64(want, word)
	}
	if got := sumOf(t, 64, key, b); !bytes.Equal(got, want) {
		t.Errorf("%x, not %x", got, want)
	}
}

// P6.1, P6.2: what may not be is refused by both alike, one thing beside the other too.
func TestRefused(t *testing.T) {
	room := make([]byte, 1<<16)
	refused := func(n int, key []byte) {
		t.Helper()
		for _, message := range [][][]byte{nil, {nil}, {room[:200]}} {
			if b, e := Sum(n, key, message...); len(b) != 0 || e != api.ErrArg {
				t.Errorf("Sum of %d bytes, key of %d: %x, %d", n, len(key), b, e)
			}
		}
		if h, e := New(n, key); h != nil || e != api.ErrArg {
			t.Errorf("New of %d bytes, key of %d: %v, %d", n, len(key), h, e)
		}
	}
	for _, n := range []int{math.MinInt, math.MinInt32, -256, -64, -1, 0, 65, 66, 128, 256, 257, 1 << 16, 1 << 32, 1<<32 + 1, math.MaxInt} {
		refused(n, nil)
		refused(n, room[:64])
		refused(n, room[:65])
	}
	for _, k := range []int{65, 66, 127, 128, 129, 256, 257, 1 << 16} {
		refused(1, room[:k])
		refused(64, room[:k])
	}
	for _, n := range []int{1, 64} {
		for _, k := range []int{0, 1, 64} {
			sumOf(t, n, room[:k])
			hashOf(t, n, room[:k])
		}
	}
}

// P6.1: no parts, and parts that are nothing; a key that is nothing is none.
func TestNothing(t *testing.T) {
	for _, key := range [][]byte{nil, {}, []byte("key")} {
		want := wordedSum(24, key, nil)
		for _, message := range [][][]byte{nil, {}, {nil}, {{}}, {nil, {}, nil}} {
			if got := sumOf(t, 24, key, message...); !bytes.Equal(got, want) {
				t.Errorf("%d parts of nothing: %x, not %x", len(message), got, want)
			}
		}
	}
}

// P6.2
func TestNewIsOfNothing(t *testing.T) {
	for _, key := range [][]byte{nil, []byte("key"), rising(64)} {
		h, want := hashOf(t, 48, key), wordedSum(48, key, nil)
		h.Write(nil)
		h.Write([]byte{})
		if got := h.Sum(); !bytes.Equal(got, want) {
			t.Errorf("key of %d bytes: of nothing: %x, not %x", len(key), got, want)
		}
		h.Write([]byte("x"))
		if got := hashOf(t, 48, key).Sum(); !bytes.Equal(got, want) {
			t.Error("a new Hash has what another one was given")
		}
	}
}

// P6.2: each Sum is of all that came so far, asked once or twice, and more may come.
func TestSumOnTheWay(t *testing.T) {
	b := sample.Bytes(400)
	for _, x := range []struct {
		size int
		key  []byte
	}{{64, nil}, {1, nil}, {20, []byte("key")}, {33, rising(64)}} {
		h := hashOf(t, x.size, x.key)
		for n := range b {
			want := wordedSum(x.size, x.key, b[:n])
			for range 2 {
				if got := h.Sum(); !bytes.Equal(got, want) {
					t.Fatalf("Sum of %d bytes: %x, not %x", n, got, want)
				}
			}
			h.Write(b[n : n+1])
		}
	}
}

// P6.2
func TestFork(t *testing.T) {
	b := sample.Bytes(600)
	for _, key := range [][]byte{nil, []byte("key")} {
		same := func(h *Hash, parts ...[]byte) bool {
			return bytes.Equal(h.Sum(), wordedSum(30, key, bytes.Join(parts, nil)))
		}
		for n := range 300 {
			h := hashOf(t, 30, key)
			h.Write(b[:n])
			f := h.Fork()
			if f == h || !same(f, b[:n]) {
				t.Fatalf("the fork of %d bytes: %x", n, f.Sum())
			}
			f.Write(b[300:450])
			if !same(h, b[:n]) {
				t.Fatalf("%d bytes: what the fork was given has come to the first", n)
			}
			h.Write(b[450:])
			if !same(f, b[:n], b[300:450]) {
				t.Fatalf("%d bytes: what the first was given has come to the fork", n)
			}
			g := f.Fork()
			g.Write(b[:1])
			if !same(h, b[:n], b[450:]) || !same(f, b[:n], b[300:450]) || !same(g, b[:n], b[300:450], b[:1]) {
				t.Fatalf("%d bytes: the fork of a fork is not by itself", n)
			}
		}
	}
}

// P6.2
func TestNilHash(t *testing.T) {
	var h *Hash
	h.Write(nil)
	h.Write(make([]byte, 300))
	if got := h.Sum(); len(got) != 0 {
		t.Errorf("a nil Hash's digest is %x", got)
	}
	if got := h.Fork(); got != nil {
		t.Errorf("a nil Hash's fork is %v", got)
	}
}

// P6.3: of all cuts into two parts, at once and piece by piece.
func TestTwoParts(t *testing.T) {
	b := sample.Bytes(400)
	for _, key := range [][]byte{nil, []byte("key")} {
		for _, n := range []int{1, 127, 128, 129, 255, 256, 257, 384, 400} {
			want := wordedSum(64, key, b[:n])
			for cut := range n + 1 {
				h := hashOf(t, 64, key)
				h.Write(b[:cut])
				h.Write(b[cut:n])
				if got := sumOf(t, 64, key, b[:cut], b[cut:n]); !bytes.Equal(got, want) || !bytes.Equal(h.Sum(), want) {
					t.Fatalf("parts of %d and %d bytes: %x and %x, not %x", cut, n-cut, got, h.Sum(), want)
				}
			}
		}
	}
}

// P6.3
func TestManyParts(t *testing.T) {
	source := sample.Source(4)
	for range 300 {
		n, key, b := 1+source.Below(64), source.Bytes(source.Below(65)), source.Bytes(source.Below(2000))
		parts := source.Parts(b)
		want := wordedSum(n, key, b)
		h := hashOf(t, n, key)
		for _, part := range parts {
			h.Write(part)
		}
		if got := sumOf(t, n, key, parts...); !bytes.Equal(got, want) || !bytes.Equal(h.Sum(), want) {
			t.Fatalf("%d bytes in %d parts: %x and %x, not %x", len(b), len(parts), got, h.Sum(), want)
		}
	}
}

// P6.3: a shorter digest is not the beginning of a longer one. (The first byte or two may be the same by chance.)
func TestLengthIsPartOfIt(t *testing.T) {
	b := sample.Bytes(50)
	longest := sumOf(t, 64, nil, b)
	for n := 8; n < 64; n++ {
		if bytes.Equal(sumOf(t, n, nil, b), longest[:n]) {
			t.Errorf("%d bytes are the beginning of 64", n)
		}
	}
}

// P6.3: keys of other lengths are others, zeros behind them too; no key is another one than a key of zeros; a key is not a part of the message.
func TestKeyIsPartOfIt(t *testing.T) {
	b := sample.Bytes(50)
	told := map[string]int{}
	for k := range 65 {
		told[string(sumOf(t, 32, make([]byte, k), b))]++
	}
	if len(told) != 65 {
		t.Errorf("65 keys of zeros have %d digests", len(told))
	}
	key := rising(64)
	want := sumOf(t, 32, key, b)
	for i := range key {
		other := bytes.Clone(key)
		other[i] ^= 1
		if bytes.Equal(sumOf(t, 32, other, b), want) {
			t.Errorf("byte %d of the key changes nothing", i)
		}
	}
	filled := append(bytes.Clone(key), make([]byte, 64)...)
	if bytes.Equal(sumOf(t, 32, nil, filled, b), want) {
		t.Error("a key is the same as a message that begins with it")
	}
}

// R3: what is handed in is neither changed nor kept, nor is the room behind its end.
func TestArgumentsAreLeftAlone(t *testing.T) {
	for n := range 260 {
		room, key := sample.Bytes(300), sample.Bytes(100)
		want := wordedSum(64, key[:n%65], room[:n])
		h := hashOf(t, 64, key[:n%65])
		h.Write(room[:n])
		if !bytes.Equal(sumOf(t, 64, key[:n%65], room[:n]), want) {
			t.Fatalf("%d bytes: another digest", n)
		}
		if !bytes.Equal(room, sample.Bytes(300)) || !bytes.Equal(key, sample.Bytes(100)) {
			t.Fatalf("%d bytes: they have changed", n)
		}
		clear(room)
		clear(key)
		if !bytes.Equal(h.Sum(), want) {
			t.Fatalf("%d bytes: the Hash hangs on the caller's bytes", n)
		}
	}
}

// R3: a digest is new memory, with no more of the state in the room behind it.
func TestDigestIsNew(t *testing.T) {
	for n := 1; n <= 64; n++ {
		h := hashOf(t, n, nil)
		if fault := sample.NotNew(h.Sum); fault != "" {
			t.Errorf("%d bytes: %s", n, fault)
		}
		if fault := sample.NotNew(func() []byte { return sumOf(t, n, nil) }); fault != "" {
			t.Errorf("%d bytes at once: %s", n, fault)
		}
	}
}

// R4: a digest hangs on the key and the message alone, whoever asks beside it.
func TestManyAtOnce(t *testing.T) {
	key, b := sample.Bytes(40), sample.Bytes(300)
	h := hashOf(t, 32, key)
	h.Write(b)
	want := wordedSum(32, key, b)
	answers := make(chan []byte)
	for i := range 8 {
		go func() {
			for j := range 20 {
				h.Fork().Write(b[:i+j])
				Sum(64, key, b[:i+j])
			}
			answers <- h.Sum()
		}()
	}
	for range 8 {
		if got := <-answers; !bytes.Equal(got, want) {
			t.Errorf("beside others: %x, not %x", got, want)
		}
	}
}
