package mix

import (
	"bytes"
	"crypto/sha256"
	"encoding/binary"
	"encoding/hex"
	"math"
	"math/big"
	"testing"

	"casket/api"
	"casket/blake"
	"casket/sample"
)

// longOf is a long digest that is not refused.
func longOf(t *testing.T, n int, message ...[]byte) []byte {
	t.Helper()
	b, e := Long(n, message...)
	if e != api.OK || len(b) != n {
		t.Fatalf("Long of %d bytes: %d bytes, %d", n, len(b), e)
	}
	return b
}

func pageOf(source *sample.Source) api.Page {
	var p api.Page
	for i := range p {
		p[i] = binary.LittleEndian.Uint64(source.Bytes(8))
	}
	return p
}

func filled(word uint64) api.Page {
	var p api.Page
	for i := range p {
		p[i] = word
	}
	return p
}

// pagesToTry are zeros, ones, single bits and such that look like nothing.
func pagesToTry() []api.Page {
	source := sample.Source(7)
	list := []api.Page{{}, filled(math.MaxUint64), filled(1 << 32), filled(math.MaxUint32), {0: 1}, {127: 1 << 63}, {64: 1 << 31}}
	for range 20 {
		list = append(list, pageOf(&source))
	}
	return list
}

func digestOf(b []byte) string {
	sum := sha256.Sum256(b)
	return hex.EncodeToString(sum[:])
}

// wordedLong is the long digest as the chapter words it.
func wordedLong(n int, message []byte) []byte {
	sum := func(n int, b []byte) []byte {
		digest, _ := blake.Sum(n, nil, b)
		return digest
	}
	b := append(binary.LittleEndian.AppendUint32(nil, uint32(n)), message...)
	if n <= 64 {
		return sum(n, b)
	}
	r := int(math.Ceil(float64(n)/32)) - 2
	v := make([][]byte, r+1)
	v[1] = sum(64, b)
	for i := 1; i < r; i++ {
		v[i+1] = sum(64, v[i])
	}
	var long []byte
	for i := 1; i <= r; i++ {
		long = append(long, v[i][:32]...)
	}
	return append(long, sum(n-32*r, v[r])...)
}

// wordedF is the chapter's f, with numbers of any size.
func wordedF(x, y uint64) uint64 {
	big64 := func(n uint64) *big.Int { return new(big.Int).SetUint64(n) }
	low := big64(math.MaxUint32)
	sum := new(big.Int).Mul(new(big.Int).And(big64(x), low), new(big.Int).And(big64(y), low))
	sum.Lsh(sum, 1).Add(sum, big64(x)).Add(sum, big64(y))
	return sum.And(sum, big64(math.MaxUint64)).Uint64()
}

// wordedStir is 16 words stirred: columns at first, then diagonals, where each place is one further to the right than the one above it.
func wordedStir(v [16]uint64) [16]uint64 {
	turn := func(n uint, x uint64) uint64 { return x>>n | x<<(64-n) }
	for k := range 8 {
		step := k / 4
		a, b, c, d := &v[k%4], &v[4+(k+step)%4], &v[8+(k+2*step)%4], &v[12+(k+3*step)%4]
		*a = wordedF(*a, *b)
		*d = turn(32, *d^*a)
		*c = wordedF(*c, *d)
		*b = turn(24, *b^*c)
		*a = wordedF(*a, *b)
		*d = turn(16, *d^*a)
		*c = wordedF(*c, *d)
		*b = turn(63, *b^*c)
	}
	return v
}

// wordedPages is two pages mixed as the chapter words it, the page as rows of 16 words.
func wordedPages(x, y api.Page) api.Page {
	var r, z [8][16]uint64
	for i := range x {
		r[i/16][i%16] = x[i] ^ y[i]
	}
	for i := range z {
		z[i] = wordedStir(r[i])
	}
	for i := range 8 {
		var column [16]uint64
		for row := range z {
			copy(column[2*row:], z[row][2*i:2*i+2])
		}
		column = wordedStir(column)
		for row := range z {
			copy(z[row][2*i:2*i+2], column[2*row:])
		}
	}
	var mixed api.Page
	for i := range mixed {
		mixed[i] = z[i/16][i%16] ^ r[i/16][i%16]
	}
	return mixed
}

// wordedWhich is the place in a window, with numbers of any size.
func wordedWhich(n int, j uint32) int {
	x := big.NewInt(int64(j))
	x.Mul(x, x).Rsh(x, 32)
	y := new(big.Int).Mul(big.NewInt(int64(n)), x)
	return n - 1 - int(y.Rsh(y, 32).Int64())
}

// P7.1: the chapter's example, and windows that were worked out by hand.
func TestWhichExamples(t *testing.T) {
	for _, x := range []struct {
		n    int
		j    uint32
		want int
	}{
		{10, 0, 9}, {10, math.MaxUint32, 0},
		{7, 1 << 31, 5}, {4, 1 << 31, 2}, {4, 1<<31 - 1, 3}, {1, 0, 0}, {1, math.MaxUint32, 0},
		{2, 3037000499, 1}, {2, 3037000500, 0}, {math.MaxInt32, 0, math.MaxInt32 - 1}, {math.MaxInt32, math.MaxUint32, 0},
	} {
		if got := Which(x.n, x.j); got != x.want {
			t.Errorf("Which(%d, %d) = %d, not %d", x.n, x.j, got, x.want)
		}
	}
}

// P7.1, P7.3: within the window, and the last one of j = 0.
func TestWhich(t *testing.T) {
	source := sample.Source(1)
	sizes := []int{math.MaxInt32, math.MaxInt32 - 1, 1 << 30, 1 << 16, 65535}
	for n := 1; n <= 300; n++ {
		sizes = append(sizes, n)
	}
	for _, n := range sizes {
		choices := []uint32{0, 1, 1 << 16, 1<<16 - 1, 1 << 31, 1<<31 - 1, math.MaxUint32, math.MaxUint32 - 1}
		for range 40 {
			choices = append(choices, binary.LittleEndian.Uint32(source.Bytes(4)))
		}
		for _, j := range choices {
			got := Which(n, j)
			if want := wordedWhich(n, j); got != want || got < 0 || got >= n {
				t.Fatalf("Which(%d, %d) = %d, not %d", n, j, got, want)
			}
		}
		if got := Which(n, 0); got != n-1 {
			t.Fatalf("Which(%d, 0) = %d", n, got)
		}
	}
}

// P7.1
func TestWhichOfNoWindow(t *testing.T) {
	for _, n := range []int{0, -1, -10, math.MinInt32, math.MinInt, math.MinInt + 1, math.MaxInt32 + 1, 1 << 32, 1<<32 + 5, math.MaxInt - 1, math.MaxInt} {
		for _, j := range []uint32{0, 1, 1 << 31, math.MaxUint32} {
			if got := Which(n, j); got != 0 {
				t.Errorf("Which(%d, %d) = %d, not 0", n, j, got)
			}
		}
	}
}

// P7.1: digests about the ends of their steps, as the blake2b of Python's hashlib makes them; the last 16 bytes at most.
func TestLongExamples(t *testing.T) {
	for _, x := range []struct {
		n    int
		want string
	}{
		{1, "79"},
		{32, "b84e272d359c1e9277e416d74cbbe1c6"},
		{33, "00169ec2a9b1208c80cfcc6a0165c5ae"},
		{63, "f759e9979d7bffb9898356e3a76b83ab"},
		{64, "f2a699096e52d163eb52d9cd99620593"},
		{65, "4c42214551593816008dc560c5a65391"},
		{66, "5cd99906d890bb66dbcda6598aa74aa6"},
		{95, "d91ffdcddf841c386bd0128980756f05"},
		{96, "52fcfcf207ca8c755d1652168b9024af"},
		{97, "d007a02b1c4efe04c13b9f39d932f335"},
		{128, "14c401e1a49b7d4d6e34782c0130e1c2"},
		{129, "1eea534a48be42894ddd5de35f354e4c"},
		{1000, "5db08bfc3ac9093a1ae2ac9821480401"},
		{1024, "fbfdc50ba0194abc940ec7cdc9fff8a0"},
	} {
		got := longOf(t, x.n, []byte("abc"))
		if end := hex.EncodeToString(got[max(0, x.n-16):]); end != x.want {
			t.Errorf("%d bytes end with %s, not %s", x.n, end, x.want)
		}
	}
}

// P7.1: likewise, all lengths up to 1200, with messages of many lengths.
func TestLong(t *testing.T) {
	b := sample.Bytes(1200)
	var all []byte
	for n := 1; n <= 1200; n++ {
		message := b[:n*7%400]
		got := longOf(t, n, message)
		if want := wordedLong(n, message); !bytes.Equal(got, want) {
			t.Fatalf("%d bytes: %x, not %x", n, got, want)
		}
		all = append(all, got...)
	}
	if got := digestOf(all); got != "b459acd178d496b90f4e9d65b1d8836f433f2af2e1e8d1f66ac5e109a110edd2" {
		t.Errorf("the digest of all digests: %s", got)
	}
}

// P7.1: likewise, the longest ones.
func TestLongest(t *testing.T) {
	for n, want := range map[int]string{
		65504: "7072531de84365f5c347782b4cb255549190556bc2e9f879b83c3c54a4ef3877",
		65505: "43163595ff04ef46b30b65b0db0cd9718d176bb6e45f4fdb80dada7b547d9a42",
		65535: "504ea9ba44db64822ffcab21bbded856ccffbb379bc568b06364fe8ad4645d01",
		65536: "485cfe8e9fd3097e5aaf668e45cdf4bf9aa20141a70657477860b132a7c41097",
	} {
		if got := digestOf(longOf(t, n, sample.Bytes(1200))); got != want {
			t.Errorf("the digest of %d bytes: %s, not %s", n, got, want)
		}
	}
}

// P7.1
func TestLongRefused(t *testing.T) {
	for _, n := range []int{math.MinInt, math.MinInt32, -65536, -64, -1, 0, 65537, 65568, 1 << 17, 1 << 31, 1 << 32, 1<<32 + 1, math.MaxInt - 31, math.MaxInt} {
		for _, message := range [][][]byte{nil, {nil}, {[]byte("abc")}, {make([]byte, 200), nil, make([]byte, 1)}} {
			if b, e := Long(n, message...); len(b) != 0 || e != api.ErrArg {
				t.Errorf("Long of %d bytes: %d bytes, %d", n, len(b), e)
			}
		}
	}
}

// P7.1: it is of all parts, whatever the cuts are.
func TestLongOfParts(t *testing.T) {
	source := sample.Source(2)
	for range 300 {
		n, b := 1+source.Below(300), source.Bytes(source.Below(1000))
		parts := source.Parts(b)
		if got, want := longOf(t, n, parts...), wordedLong(n, b); !bytes.Equal(got, want) {
			t.Fatalf("%d bytes of %d in %d parts: %x, not %x", n, len(b), len(parts), got, want)
		}
	}
}

// P7.1: no parts, and parts that are nothing.
func TestLongOfNothing(t *testing.T) {
	for _, n := range []int{1, 64, 65, 100} {
		want := wordedLong(n, nil)
		for _, message := range [][][]byte{nil, {}, {nil}, {{}}, {nil, {}, nil}} {
			if got := longOf(t, n, message...); !bytes.Equal(got, want) {
				t.Errorf("%d bytes of %d parts of nothing: %x, not %x", n, len(message), got, want)
			}
		}
	}
}

// P7.1: words that were worked out by other means.
func TestStirExamples(t *testing.T) {
	var rising, ones [16]uint64
	for i := range rising {
		rising[i], ones[i] = uint64(i), math.MaxUint64
	}
	want := [16]uint64{
		0x3bce1ccd56d0db35, 0x92fd98e3a24f70b4, 0x3845ecf7791b8e89, 0xa920b275b5a7d5f7,
		0x60fa2a84ac4f1571, 0xa5feebc3465becf6, 0x6b1b2cd05ad5461a, 0x632b8ec35cceef08,
		0xbb0c7d539613c94b, 0x7ce048bb910f8c63, 0xdbf94bf83b0da4d7, 0xe70eab96511821ba,
		0xeba9f9fa9db0b60c, 0x4c1d95d18ef2a267, 0xc1b8941b9bba8ba2, 0x4c1b185e3a641fc4,
	}
	if got := Stir(rising); got != want {
		t.Errorf("rising words: %x, not %x", got, want)
	}
	for i, word := range [4]uint64{0xa49c4ca7814b8c42, 0xc138c87092bb881f, 0xc0b456dcc224ca1a, 0x93fc5431185f0cef} {
		for k := range 4 {
			want[4*i+k] = word
		}
	}
	if got := Stir(ones); got != want {
		t.Errorf("ones: %x, not %x", got, want)
	}
	if got := Stir([16]uint64{}); got != [16]uint64{} {
		t.Errorf("zeros: %x", got)
	}
}

// P7.1
func TestStir(t *testing.T) {
	var lists [][16]uint64
	for i := range 16 {
		for bit := range 64 {
			var v [16]uint64
			v[i] = 1 << bit
			lists = append(lists, v)
		}
	}
	for _, p := range pagesToTry() {
		lists = append(lists, [16]uint64(p[:16]))
	}
	for _, v := range lists {
		if got, want := Stir(v), wordedStir(v); got != want {
			t.Fatalf("Stir(%x) = %x, not %x", v, got, want)
		}
	}
}

// P7.1: a page that was mixed by other means.
func TestPagesExample(t *testing.T) {
	b := sample.Bytes(2048)
	x, _ := Page(b[:1024])
	y, _ := Page(b[1024:])
	z := Pages(x, y)
	if z[0] != 0xdb008851aa95d0aa || z[1] != 0xba6da64d5dad8001 || z[127] != 0x1eaa810638ecaeca {
		t.Errorf("mixed: %x, %x, .., %x", z[0], z[1], z[127])
	}
	if got := digestOf(Bytes(z)); got != "908e8e90407533a746404ba7e846d95fd14b597b36b6f97a07ce8ffff10ff4f9" {
		t.Errorf("the digest of the page: %s", got)
	}
}

// P7.1, P7.3: as the chapter words it, in either order.
func TestPages(t *testing.T) {
	list := pagesToTry()
	for i, x := range list {
		for _, y := range list[:i] {
			got := Pages(x, y)
			if got != wordedPages(x, y) {
				t.Fatalf("%x and %x: %x", x, y, got)
			}
			if got != Pages(y, x) {
				t.Fatalf("%x and %x: another page in the other order", x, y)
			}
		}
	}
}

// P7.1: each word of both pages is in it.
func TestPagesHangOnAllWords(t *testing.T) {
	source := sample.Source(3)
	x, y := pageOf(&source), pageOf(&source)
	told := map[api.Page]int{Pages(x, y): 1}
	for i := range x {
		other := x
		other[i]++
		got := Pages(other, y)
		if got != wordedPages(other, y) {
			t.Errorf("word %d is one more: %x", i, got)
		}
		told[got]++
	}
	if len(told) != 129 {
		t.Errorf("of 129 pages %d are unlike", len(told))
	}
}

// P7.3
func TestPageWithItself(t *testing.T) {
	for _, p := range pagesToTry() {
		if got := Pages(p, p); got != (api.Page{}) {
			t.Errorf("%x with itself: %x", p, got)
		}
	}
}

// P7.2
func TestBytes(t *testing.T) {
	for _, p := range pagesToTry() {
		var want []byte
		for _, word := range p {
			want = binary.LittleEndian.AppendUint64(want, word)
		}
		got := Bytes(p)
		if len(got) != 1024 || !bytes.Equal(got, want) {
			t.Fatalf("%x: bytes %x", p, got)
		}
		if back, e := Page(got); back != p || e != api.OK {
			t.Fatalf("%x: back from its bytes: %x, %d", p, back, e)
		}
	}
}

// P7.2
func TestPage(t *testing.T) {
	b := sample.Bytes(1024)
	p, e := Page(b)
	if e != api.OK {
		t.Fatalf("Page: %d", e)
	}
	for i, word := range p {
		if want := binary.LittleEndian.Uint64(b[8*i:]); word != want {
			t.Errorf("word %d: %x, not %x", i, word, want)
		}
	}
	if !bytes.Equal(Bytes(p), b) {
		t.Error("there and back are other bytes")
	}
}

// P7.2
func TestPageRefused(t *testing.T) {
	room := sample.Bytes(4096)
	refused := func(b []byte) {
		t.Helper()
		if p, e := Page(b); p != (api.Page{}) || e != api.ErrArg {
			t.Errorf("Page of %d bytes: %x, %d", len(b), p, e)
		}
	}
	refused(nil)
	for _, n := range []int{0, 1, 8, 128, 1016, 1023, 1025, 1032, 2048, 4096} {
		refused(room[:n])
	}
}

// R3: what is handed in is neither changed nor kept, nor is the room behind its end.
func TestArgumentsAreLeftAlone(t *testing.T) {
	for _, n := range []int{1, 64, 65, 1000} {
		room := sample.Bytes(2000)
		parts := append(make([][]byte, 0, 5), room[:10], room[10:300], nil)
		behind := parts[:5]
		want := wordedLong(n, room[:300])
		got := longOf(t, n, parts...)
		if !bytes.Equal(room, sample.Bytes(2000)) || len(parts[0]) != 10 || len(parts[1]) != 290 || parts[2] != nil || behind[3] != nil || behind[4] != nil {
			t.Errorf("%d bytes: the parts have changed", n)
		}
		clear(room)
		if !bytes.Equal(got, want) {
			t.Errorf("%d bytes: they hang on the caller's", n)
		}
	}
	room := sample.Bytes(2000)
	if _, e := Page(room[:1024]); e != api.OK || !bytes.Equal(room, sample.Bytes(2000)) {
		t.Errorf("a page's bytes have changed, %d", e)
	}
}

// R3: an answer is new memory, with nothing in the room behind it.
func TestAnswersAreNew(t *testing.T) {
	p := filled(0x0123456789abcdef)
	if fault := sample.NotNew(func() []byte { return Bytes(p) }); fault != "" {
		t.Errorf("a page's bytes: %s", fault)
	}
	for _, n := range []int{1, 33, 64, 65, 100, 1024} {
		if fault := sample.NotNew(func() []byte { return longOf(t, n, []byte("abc")) }); fault != "" {
			t.Errorf("%d bytes: %s", n, fault)
		}
	}
}

// R4: what is answered hangs on the arguments alone, whoever asks beside it.
func TestManyAtOnce(t *testing.T) {
	source := sample.Source(5)
	x, y := pageOf(&source), pageOf(&source)
	page, long := wordedPages(x, y), wordedLong(200, Bytes(x))
	answers := make(chan bool)
	for i := range 8 {
		go func() {
			other := x
			other[i] = 0
			for range 20 {
				Pages(other, y)
				Long(100+i, Bytes(y))
			}
			got, _ := Long(200, Bytes(x))
			answers <- Pages(x, y) == page && bytes.Equal(got, long)
		}()
	}
	for range 8 {
		if !<-answers {
			t.Error("beside others: another answer")
		}
	}
}
