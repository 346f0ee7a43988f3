package field

import (
	"math"
	"math/big"
	"testing"

	"casket/api"
)

// longMul multiplies in full first and divides by the modulus behind it: another way than Mul's.
func longMul(a, b byte) byte {
	product := 0
	for i := range 8 {
		if b>>i&1 == 1 {
			product ^= int(a) << i
		}
	}
	for i := 15; i >= 8; i-- {
		if product>>i&1 == 1 {
			product ^= 0x11b << (i - 8)
		}
	}
	return byte(product)
}

// wordedBox is the box as the chapter words it, bit by bit, of an inverse that is searched for.
func wordedBox(a byte) byte {
	var inverse, box byte
	for b := range 256 {
		if longMul(a, byte(b)) == 1 {
			inverse = byte(b)
		}
	}
	for i := range 8 {
		bit := byte(0x63) >> i & 1
		for _, j := range []int{i, i + 4, i + 5, i + 6, i + 7} {
			bit ^= inverse >> (j % 8) & 1
		}
		box |= bit << i
	}
	return box
}

// big128 is an element as a great number whose bit i is the coefficient of x^i.
func big128(a api.Half) *big.Int {
	n := new(big.Int).SetUint64(a.High)
	return n.Lsh(n, 64).Or(n, new(big.Int).SetUint64(a.Low))
}

// longTimes multiplies in full first and divides by the modulus behind it.
func longTimes(a, b api.Half) *big.Int {
	product, x, y := new(big.Int), big128(a), big128(b)
	for i := range 128 {
		if y.Bit(i) == 1 {
			product.Xor(product, new(big.Int).Lsh(x, uint(i)))
		}
	}
	modulus := new(big.Int).Lsh(big.NewInt(1), 128)
	modulus.Or(modulus, big.NewInt(0x87))
	for i := 255; i >= 128; i-- {
		if product.Bit(i) == 1 {
			product.Xor(product, new(big.Int).Lsh(modulus, uint(i-128)))
		}
	}
	return product
}

// samples are elements with few and with many coefficients, at both ends and across the middle.
func samples() []api.Half {
	list := []api.Half{
		{}, {Low: 1}, {Low: 2}, {Low: 0x87}, {Low: 1 << 63}, {High: 1}, {High: 1 << 63},
		{Low: math.MaxUint64}, {High: math.MaxUint64}, {Low: math.MaxUint64, High: math.MaxUint64},
		{Low: 1, High: 1 << 63}, {Low: 1 << 63, High: 1},
	}
	seed := uint64(1)
	next := func() uint64 {
		seed = seed*6364136223846793005 + 1442695040888963407
		return seed ^ seed>>29
	}
	for range 12 {
		list = append(list, api.Half{Low: next(), High: next()})
	}
	return list
}

func sum(a, b api.Half) api.Half {
	return api.Half{Low: a.Low ^ b.Low, High: a.High ^ b.High}
}

// P1.1
func TestMul(t *testing.T) {
	if got := Mul(0x57, 0x83); got != 0xc1 {
		t.Errorf("Mul(57, 83) = %x", got)
	}
	for a := range 256 {
		for b := range 256 {
			if got, want := Mul(byte(a), byte(b)), longMul(byte(a), byte(b)); got != want {
				t.Fatalf("Mul(%x, %x) = %x, not %x", a, b, got, want)
			}
		}
		if Mul(byte(a), 0) != 0 || Mul(0, byte(a)) != 0 {
			t.Errorf("Mul of %x and 0", a)
		}
	}
}

// P1.1, P1.3
func TestInverse(t *testing.T) {
	if got := Inverse(0); got != 0 {
		t.Errorf("Inverse(0) = %x", got)
	}
	for a := 1; a < 256; a++ {
		b := Inverse(byte(a))
		if longMul(byte(a), b) != 1 || Mul(byte(a), b) != 1 || Mul(b, byte(a)) != 1 {
			t.Errorf("Inverse(%x) = %x", a, b)
		}
	}
}

// P1.1
func TestBox(t *testing.T) {
	for a, want := range map[byte]byte{0x00: 0x63, 0x53: 0xed} {
		if got := Box(a); got != want {
			t.Errorf("Box(%x) = %x, not %x", a, got, want)
		}
	}
	for a := range 256 {
		if got, want := Box(byte(a)), wordedBox(byte(a)); got != want {
			t.Errorf("Box(%x) = %x, not %x", a, got, want)
		}
	}
}

// P1.1
func TestUnbox(t *testing.T) {
	for a := range 256 {
		if got := Unbox(Box(byte(a))); got != byte(a) {
			t.Errorf("Unbox(Box(%x)) = %x", a, got)
		}
		if got := Box(Unbox(byte(a))); got != byte(a) {
			t.Errorf("Box(Unbox(%x)) = %x", a, got)
		}
	}
}

// P1.3
func TestBoxTakesEachValueOnce(t *testing.T) {
	var taken [256]int
	for a := range 256 {
		taken[Box(byte(a))]++
	}
	for value, times := range taken {
		if times != 1 {
			t.Errorf("%x is taken %d times", value, times)
		}
	}
}

// P1.3
func TestLawsOfBytes(t *testing.T) {
	for a := range 256 {
		x := byte(a)
		if Mul(x, 1) != x {
			t.Errorf("%x times 1 is %x", x, Mul(x, 1))
		}
		for b := range 256 {
			y := byte(b)
			xy := Mul(x, y)
			if xy != Mul(y, x) {
				t.Fatalf("order: %x, %x", x, y)
			}
			if xy == 0 && x != 0 && y != 0 {
				t.Fatalf("%x times %x is 0", x, y)
			}
			for c := b % 5; c < 256; c += 5 {
				z := byte(c)
				if Mul(xy, z) != Mul(x, Mul(y, z)) {
					t.Fatalf("groups: %x, %x, %x", x, y, z)
				}
				if Mul(x, y^z) != xy^Mul(x, z) {
					t.Fatalf("parts: %x, %x, %x", x, y, z)
				}
			}
		}
	}
}

// P1.2
func TestDouble(t *testing.T) {
	if got := Double(api.Half{High: 1 << 63}); got != (api.Half{Low: 0x87}) {
		t.Errorf("Double of x^127: %x", got)
	}
	if got := Double(api.Half{Low: 1 << 63}); got != (api.Half{High: 1}) {
		t.Errorf("Double of x^63: %x", got)
	}
	x := api.Half{Low: 2}
	for _, a := range samples() {
		if got, want := big128(Double(a)), longTimes(a, x); got.Cmp(want) != 0 {
			t.Errorf("Double(%x) = %x, not %x", a, got, want)
		}
	}
}

// P1.2
func TestTimes(t *testing.T) {
	if got := Times(api.Half{High: 1 << 63}, api.Half{Low: 2}); got != (api.Half{Low: 0x87}) {
		t.Errorf("x^127 times x: %x", got)
	}
	for _, a := range samples() {
		for _, b := range samples() {
			if got, want := big128(Times(a, b)), longTimes(a, b); got.Cmp(want) != 0 {
				t.Errorf("Times(%x, %x) = %x, not %x", a, b, got, want)
			}
		}
	}
}

// P1.2
func TestPower(t *testing.T) {
	one := api.Half{Low: 1}
	for _, n := range []int{0, -1, -2, -128, math.MinInt32, math.MinInt + 1, math.MinInt} {
		if got := Power(n); got != one {
			t.Errorf("Power(%d) = %x, not 1", n, got)
		}
	}
	want := one
	for n := range 1000 {
		if got := Power(n); got != want {
			t.Fatalf("Power(%d) = %x, not %x", n, got, want)
		}
		want = Double(want)
	}
	if got := Power(127); got != (api.Half{High: 1 << 63}) {
		t.Errorf("Power(127) = %x", got)
	}
	if got := Power(128); got != (api.Half{Low: 0x87}) {
		t.Errorf("Power(128) = %x", got)
	}
}

// P1.2: powers that nobody counts through, held against squares of squares.
func TestGreatPower(t *testing.T) {
	square, all := api.Half{Low: 2}, api.Half{Low: 1}
	for i := range 63 {
		if got := Power(1 << i); got != square {
			t.Errorf("Power(2^%d) = %x, not %x", i, got, square)
		}
		all = Times(all, square)
		square = Times(square, square)
	}
	if got := Power(math.MaxInt); got != all {
		t.Errorf("Power(2^63 - 1) = %x, not %x", got, all)
	}
	if got, want := Double(Power(math.MaxInt-1)), Power(math.MaxInt); got != want {
		t.Errorf("Power(2^63 - 2) times x = %x, not %x", got, want)
	}
	// Squared 128 times, each element is itself again.
	again := Power(math.MaxInt)
	for range 128 {
		again = Times(again, again)
	}
	if again != Power(math.MaxInt) {
		t.Errorf("Power(2^63 - 1) squared 128 times is %x", again)
	}
}

// P1.2
func TestBytes(t *testing.T) {
	for n := range 128 {
		var want [16]byte
		want[n/8] = 1 << (n % 8)
		if got := Bytes(Power(n)); got != want {
			t.Errorf("Bytes of x^%d: %x", n, got)
		}
		if got := Of(want); got != Power(n) {
			t.Errorf("Of the bytes of x^%d: %x", n, got)
		}
	}
	got := Bytes(api.Half{Low: 0x0706050403020100, High: 0x0f0e0d0c0b0a0908})
	for i := range got {
		if got[i] != byte(i) {
			t.Errorf("byte %d is %x", i, got[i])
		}
	}
}

// P1.2
func TestOfBytes(t *testing.T) {
	for _, a := range samples() {
		if got := Of(Bytes(a)); got != a {
			t.Errorf("Of(Bytes(%x)) = %x", a, got)
		}
	}
	var b [16]byte
	for i := range b {
		b[i] = byte(0xf1 - 13*i)
	}
	if got := Bytes(Of(b)); got != b {
		t.Errorf("Bytes(Of(%x)) = %x", b, got)
	}
}

// P1.3
func TestLawsOfTweaks(t *testing.T) {
	one := api.Half{Low: 1}
	list := samples()
	for _, a := range list {
		if Times(a, one) != a || Times(one, a) != a {
			t.Errorf("%x times 1", a)
		}
		if Times(a, api.Half{}) != (api.Half{}) {
			t.Errorf("%x times 0", a)
		}
		for _, b := range list {
			ab := Times(a, b)
			if ab != Times(b, a) {
				t.Fatalf("order: %x, %x", a, b)
			}
			for _, c := range list {
				if Times(ab, c) != Times(a, Times(b, c)) {
					t.Fatalf("groups: %x, %x, %x", a, b, c)
				}
				if Times(a, sum(b, c)) != sum(ab, Times(a, c)) {
					t.Fatalf("parts: %x, %x, %x", a, b, c)
				}
			}
		}
	}
}

// P1.3: each element but 0 has an inverse, its power 2^128 - 2; without one it were no field.
func TestTweaksHaveInverses(t *testing.T) {
	for _, a := range samples() {
		want := api.Half{Low: 1}
		if a == (api.Half{}) {
			want = api.Half{}
		}
		inverse, square := api.Half{Low: 1}, a
		for range 127 {
			square = Times(square, square)
			inverse = Times(inverse, square)
		}
		if got := Times(a, inverse); got != want {
			t.Errorf("%x times its inverse is %x", a, got)
		}
	}
}
