package hmac

import (
	"bytes"
	"crypto/hkdf"
	standard "crypto/hmac"
	"crypto/sha256"
	"encoding/hex"
	"math"
	"strings"
	"testing"

	"casket/api"
	"casket/sample"
	"casket/sha"
)

// standardTag is the library's.
func standardTag(key []byte, message ...[]byte) [32]byte {
	h := standard.New(sha256.New, key)
	for _, part := range message {
		h.Write(part)
	}
	return [32]byte(h.Sum(nil))
}

// wordedTag is the tag as the chapter words it.
func wordedTag(key, message []byte) [32]byte {
	ready := bytes.Clone(key)
	if len(ready) > 64 {
		digest := sha.Sum(ready)
		ready = digest[:]
	}
	for len(ready) < 64 {
		ready = append(ready, 0)
	}
	plus := func(mask byte) []byte {
		list := bytes.Clone(ready)
		for i := range list {
			list[i] ^= mask
		}
		return list
	}
	inside := sha.Sum(append(plus(0x36), message...))
	return sha.Sum(append(plus(0x5c), inside[:]...))
}

// wordedDerived is all that can be derived, as the chapter words it.
func wordedDerived(key []byte, label string) []byte {
	var all, ahead []byte
	for count := 1; count <= 255; count++ {
		message := append(append(bytes.Clone(ahead), label...), byte(count))
		tag := wordedTag(key, message)
		ahead = tag[:]
		all = append(all, ahead...)
	}
	return all
}

// someKeys are keys of many lengths: those about a piece and a digest, and none.
func someKeys() [][]byte {
	source := sample.Source(3)
	list := [][]byte{nil, {}, make([]byte, 64), bytes.Repeat([]byte{0xff}, 64), bytes.Repeat([]byte{0xff}, 65)}
	for _, n := range []int{1, 2, 16, 31, 32, 33, 55, 56, 63, 64, 65, 66, 96, 127, 128, 129, 131, 1000} {
		list = append(list, source.Bytes(n))
	}
	return list
}

// P5.1: the chapter's example, and those of the standard.
func TestExamples(t *testing.T) {
	rising := make([]byte, 25)
	for i := range rising {
		rising[i] = byte(i + 1)
	}
	long := bytes.Repeat([]byte{0xaa}, 131)
	for _, x := range []struct {
		key           []byte
		message, want string
	}{
		{[]byte("Jefe"), "what do ya want for nothing?", "5bdcc146bf60754e6a042426089575c75a003f089d2739839dec58b964ec3843"},
		{bytes.Repeat([]byte{0x0b}, 20), "Hi There", "b0344c61d8db38535ca8afceaf0bf12b881dc200c9833da726e9376c2e32cff7"},
		{bytes.Repeat([]byte{0xaa}, 20), strings.Repeat("\xdd", 50), "773ea91e36800e46854db8ebd09181a72959098b3ef8c122d9635514ced565fe"},
		{rising, strings.Repeat("\xcd", 50), "82558a389a443c0ea4cc819899f2083a85f0faa3e578f8077a2e3ff46729665b"},
		{long, "Test Using Larger Than Block-Size Key - Hash Key First", "60e431591ee0b67f0d8a26aacbf5b77f8e0bc6213728c5140546040f0ee37f54"},
		{long, "This is a test using a larger than block-size key and a larger than block-size data. The key needs to be hashed before being used by the HMAC algorithm.", "9b09ffa71b942fcb27635fbcd5b0e944bfdc63644f0713938a7f51535c3a35e2"},
		{nil, "", "b613679a0814d9ec772f95d778c35fc5ff1697c493715653c6c712144292c5ad"},
	} {
		got := Tag(x.key, []byte(x.message))
		if hex.EncodeToString(got[:]) != x.want {
			t.Errorf("key %x, %q: %x, not %s", x.key, x.message, got, x.want)
		}
	}
}

// P5.1: as the chapter words it, and as the library tells it.
func TestAsWorded(t *testing.T) {
	source := sample.Source(5)
	for _, key := range someKeys() {
		for _, n := range []int{0, 1, 3, 31, 32, 54, 55, 56, 63, 64, 65, 119, 120, 128, 500, 1 << 16} {
			message := source.Bytes(n)
			got := Tag(key, message)
			if want := wordedTag(key, message); got != want {
				t.Fatalf("key of %d bytes, message of %d: %x, not %x", len(key), n, got, want)
			}
			if want := standardTag(key, message); got != want {
				t.Fatalf("key of %d bytes, message of %d: %x, and the library's %x", len(key), n, got, want)
			}
		}
	}
}

// P5.1: keys of all lengths up to beyond two pieces; 64 bytes are still the key itself.
func TestKeysOfAllLengths(t *testing.T) {
	message := []byte("of a key")
	source := sample.Source(6)
	for n := range 300 {
		key := source.Bytes(n)
		if got, want := Tag(key, message), standardTag(key, message); got != want {
			t.Errorf("key of %d bytes: %x, not %x", n, got, want)
		}
	}
	if Tag(nil, message) != Tag([]byte{}, message) || Tag(nil, message) != Tag(make([]byte, 64), message) {
		t.Error("no key is not the same as zeros")
	}
	key := source.Bytes(65)
	digest := sha.Sum(key)
	if Tag(key, message) != Tag(digest[:], message) {
		t.Error("a key of 65 bytes is not its digest")
	}
	digest = sha.Sum(key[:64])
	if Tag(key[:64], message) == Tag(digest[:], message) {
		t.Error("a key of 64 bytes is its digest")
	}
}

// P5.1: no parts, and parts that are nothing.
func TestNoParts(t *testing.T) {
	key := []byte("key")
	want := standardTag(key)
	for _, message := range [][][]byte{nil, {}, {nil}, {{}}, {nil, {}, nil}} {
		if got := Tag(key, message...); got != want {
			t.Errorf("%d parts of nothing: %x, not %x", len(message), got, want)
		}
	}
}

// P5.1
func TestEqual(t *testing.T) {
	source := sample.Source(7)
	for n := range 100 {
		a := source.Bytes(n)
		if !Equal(a, a) || !Equal(a, bytes.Clone(a)) {
			t.Errorf("%d bytes are not the same as themselves", n)
		}
		for i := range a {
			for bit := range 8 {
				b := bytes.Clone(a)
				b[i] ^= 1 << bit
				if Equal(a, b) || Equal(b, a) {
					t.Errorf("%d bytes: bit %d of byte %d is not looked at", n, bit, i)
				}
			}
		}
	}
}

// P5.1: unlike bytes at two places do not make up for each other.
func TestEqualOfManyUnlike(t *testing.T) {
	a, b := make([]byte, 32), make([]byte, 32)
	for i := range a {
		for j := range i {
			clear(b)
			b[i], b[j] = 0x80, 0x80
			if Equal(a, b) || Equal(b, a) {
				t.Errorf("bytes %d and %d make up for each other", i, j)
			}
		}
	}
	for i := range b {
		b[i] = 0xff
	}
	if Equal(a, b) {
		t.Error("zeros are the same as ones")
	}
}

// P5.1: bytes of other lengths are not the same, whatever comes behind, zeros too.
func TestEqualOfOtherLengths(t *testing.T) {
	for _, list := range [][]byte{make([]byte, 600), bytes.Repeat([]byte{0xff}, 600), sample.Bytes(600)} {
		for _, n := range []int{0, 1, 31, 32, 33, 64, 255, 256, 257, 512} {
			for _, m := range []int{0, 1, 31, 32, 33, 64, 255, 256, 257, 512} {
				if got := Equal(list[:n], list[:m]); got != (n == m) {
					t.Errorf("%d and %d bytes: %v", n, m, got)
				}
			}
		}
	}
	if !Equal(nil, nil) || !Equal(nil, []byte{}) || !Equal([]byte{}, nil) {
		t.Error("nil and the empty list are not the same")
	}
	if Equal(nil, []byte{0}) || Equal([]byte{0}, nil) {
		t.Error("nil is the same as a zero")
	}
}

// P5.1: lengths that differ by much are told apart too.
func TestEqualOfGreatLengths(t *testing.T) {
	list := make([]byte, 1<<16+1)
	if Equal(list[:1<<16], list) || Equal(nil, list[:1<<16]) || Equal(list[:1], list) || !Equal(list, list) {
		t.Error("lengths about 2^16 are not told apart")
	}
}

// P5.2: as the chapter words it, and as the library tells it.
func TestDerive(t *testing.T) {
	labels := []string{"", "x", "data", "a label \x00 of\xff bytes", strings.Repeat("long", 50)}
	for i, key := range someKeys() {
		label := labels[i%len(labels)]
		all := wordedDerived(key, label)
		library, err := hkdf.Expand(sha256.New, key, label, api.MaxDerived)
		if err != nil || !bytes.Equal(all, library) {
			t.Fatalf("the chapter's words and the library differ: %v", err)
		}
		for _, n := range []int{1, 2, 31, 32, 33, 63, 64, 65, 70, 96, 1000, 8128, 8129, 8159, api.MaxDerived} {
			if got := Derive(key, label, n); !bytes.Equal(got, all[:n]) {
				t.Fatalf("key of %d bytes, label %q: %d bytes derived are not as worded", len(key), label, n)
			}
		}
	}
}

// P5.2: the standard's examples, of its second step.
func TestDeriveExamples(t *testing.T) {
	for _, x := range []struct{ key, label, want string }{
		{"077709362c2e32df0ddc3f0dc47bba6390b6c73bb50f9c3122ec844ad7c2b3e5", "f0f1f2f3f4f5f6f7f8f9", "3cb25f25faacd57a90434f64d0362f2a2d2d0a90cf1a5a4c5db02d56ecc4c5bf34007208d5b887185865"},
		{"19ef24a32c717b167f33a91d6f648bdf96596776afdb6377ac434c1c293ccb04", "", "8da4e775a563c18f715f802a063c5a31b8a11f5c5ee1879ec3454e5f3c738d2d9d201395faa4b61a96c8"},
	} {
		key, _ := hex.DecodeString(x.key)
		label, _ := hex.DecodeString(x.label)
		want, _ := hex.DecodeString(x.want)
		if got := Derive(key, string(label), len(want)); !bytes.Equal(got, want) {
			t.Errorf("key %s: %x, not %s", x.key, got, x.want)
		}
	}
}

// P5.2
func TestDeriveNone(t *testing.T) {
	key := []byte("key")
	for _, n := range []int{0, -1, -32, math.MinInt32, math.MinInt, api.MaxDerived + 1, api.MaxDerived + 32, 1 << 16, math.MaxInt32, math.MaxInt} {
		if got := Derive(key, "label", n); len(got) != 0 {
			t.Errorf("%d bytes: %d are derived", n, len(got))
		}
		if got := Derive(nil, "", n); len(got) != 0 {
			t.Errorf("%d bytes of nothing: %d are derived", n, len(got))
		}
	}
	for _, n := range []int{1, api.MaxDerived} {
		if got := Derive(key, "label", n); len(got) != n {
			t.Errorf("%d bytes: %d are derived", n, len(got))
		}
	}
}

// P5.3: each Sum is of all that came so far, asked once or twice, and more may come.
func TestSumOnTheWay(t *testing.T) {
	b := sample.Bytes(200)
	for _, key := range someKeys() {
		m := New(key)
		for n := range b {
			want := standardTag(key, b[:n])
			if got := m.Sum(); got != want {
				t.Fatalf("key of %d bytes: Sum of %d bytes: %x, not %x", len(key), n, got, want)
			}
			if again := m.Sum(); again != want {
				t.Fatalf("key of %d bytes: the second Sum of %d bytes: %x, not %x", len(key), n, again, want)
			}
			m.Write(b[n : n+1])
		}
	}
}

// P5.3
func TestNewIsOfNothing(t *testing.T) {
	key := []byte("key")
	m := New(key)
	m.Write(nil)
	m.Write([]byte{})
	if got, want := m.Sum(), standardTag(key); got != want {
		t.Errorf("of nothing: %x, not %x", got, want)
	}
	m.Write([]byte("x"))
	if other := New(key); other.Sum() != standardTag(key) {
		t.Error("a new Mac has what another one was given")
	}
}

// P5.3
func TestFork(t *testing.T) {
	b, key := sample.Bytes(400), []byte("forked")
	for n := range 200 {
		m := New(key)
		m.Write(b[:n])
		f := m.Fork()
		if f == m || f.Sum() != standardTag(key, b[:n]) {
			t.Fatalf("the fork of %d bytes: %x", n, f.Sum())
		}
		f.Write(b[200:300])
		if m.Sum() != standardTag(key, b[:n]) {
			t.Fatalf("%d bytes: what the fork was given has come to the first", n)
		}
		m.Write(b[300:])
		if f.Sum() != standardTag(key, b[:n], b[200:300]) {
			t.Fatalf("%d bytes: what the first was given has come to the fork", n)
		}
		g := f.Fork()
		g.Write(b[:1])
		if m.Sum() != standardTag(key, b[:n], b[300:]) || f.Sum() != standardTag(key, b[:n], b[200:300]) || g.Sum() != standardTag(key, b[:n], b[200:300], b[:1]) {
			t.Fatalf("%d bytes: the fork of a fork is not by itself", n)
		}
	}
}

// P5.3
func TestNilMac(t *testing.T) {
	var m *Mac
	m.Write(nil)
	m.Write(make([]byte, 100))
	if got := m.Sum(); got != [32]byte{} {
		t.Errorf("a nil Mac's tag is %x", got)
	}
	if got := m.Fork(); got != nil {
		t.Errorf("a nil Mac's fork is %v", got)
	}
}

// P5.4: of all cuts into two parts and three.
func TestTagIsOfAllParts(t *testing.T) {
	b := sample.Bytes(150)
	for _, key := range [][]byte{nil, []byte("parts"), sample.Bytes(80)} {
		want := standardTag(key, b)
		for i := range b {
			if got := Tag(key, b[:i], b[i:]); got != want {
				t.Fatalf("parts of %d and %d bytes: %x, not %x", i, len(b)-i, got, want)
			}
			half := i / 2
			if got := Tag(key, b[:half], b[half:i], b[i:]); got != want {
				t.Fatalf("three parts, cut at %d and %d: %x, not %x", half, i, got, want)
			}
		}
	}
}

// P5.4: at once and piece by piece.
func TestManyParts(t *testing.T) {
	source := sample.Source(9)
	for range 300 {
		key, b := source.Bytes(source.Below(150)), source.Bytes(source.Below(2000))
		parts := source.Parts(b)
		want := standardTag(key, b)
		m := New(key)
		for _, part := range parts {
			m.Write(part)
		}
		if got := Tag(key, parts...); got != want || m.Sum() != want {
			t.Fatalf("%d bytes in %d parts: %x and %x, not %x", len(b), len(parts), got, m.Sum(), want)
		}
	}
}

// P5.4
func TestFewerAreTheBeginning(t *testing.T) {
	key, label := sample.Bytes(32), "beginning"
	all := Derive(key, label, api.MaxDerived)
	for n := 1; n <= 300; n++ {
		if got := Derive(key, label, n); !bytes.Equal(got, all[:n]) {
			t.Fatalf("%d bytes are not the beginning", n)
		}
	}
	for n := 301; n <= api.MaxDerived; n += 61 {
		if got := Derive(key, label, n); !bytes.Equal(got, all[:n]) {
			t.Fatalf("%d bytes are not the beginning", n)
		}
	}
}

// R3: what is handed in is neither changed nor kept, nor is the room behind its end.
func TestArgumentsAreLeftAlone(t *testing.T) {
	for _, n := range []int{0, 1, 20, 63, 64, 65, 100} {
		room, key := sample.Bytes(200), sample.Bytes(200)
		want := standardTag(key[:n], room[:n], room[n:2*n])
		m := New(key[:n])
		m.Write(room[:n])
		m.Write(room[n : 2*n])
		if Tag(key[:n], room[:n], room[n:2*n]) != want || m.Sum() != want {
			t.Fatalf("%d bytes: another tag", n)
		}
		Derive(key[:n], "label", 100)
		Equal(room[:n], key[:n])
		if !bytes.Equal(room, sample.Bytes(200)) || !bytes.Equal(key, sample.Bytes(200)) {
			t.Fatalf("%d bytes: they have changed", n)
		}
		clear(room)
		clear(key)
		if m.Sum() != want {
			t.Fatalf("%d bytes: the Mac hangs on the caller's bytes", n)
		}
	}
}

// R3: derived bytes are new memory, with no more of the key's bytes in the room behind them.
func TestDerivedIsNew(t *testing.T) {
	for _, n := range []int{1, 31, 32, 33, 70} {
		if fault := sample.NotNew(func() []byte { return Derive([]byte("key"), "x", n) }); fault != "" {
			t.Errorf("%d bytes: %s", n, fault)
		}
	}
}

// R4: a tag hangs on the key and the message alone, whoever asks beside it.
func TestManyAtOnce(t *testing.T) {
	key, b := sample.Bytes(40), sample.Bytes(300)
	m := New(key)
	m.Write(b)
	want := standardTag(key, b)
	answers := make(chan [32]byte)
	for i := range 8 {
		go func() {
			for j := range 20 {
				m.Fork().Write(b[:i+j])
				Tag(key, b[:i+j])
			}
			answers <- m.Sum()
		}()
	}
	for range 8 {
		if got := <-answers; got != want {
			t.Errorf("beside others: %x, not %x", got, want)
		}
	}
}
