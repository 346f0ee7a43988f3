package aes

import (
	"bytes"
	standard "crypto/aes"
	"encoding/hex"
	"math"
	"testing"

	"casket/api"
	"casket/field"
	"casket/sample"
)

type block = [16]byte

func fromHex(t *testing.T, text string) []byte {
	t.Helper()
	b, err := hex.DecodeString(text)
	if err != nil {
		t.Fatal(err)
	}
	return b
}

func rising(count, step int) []byte {
	list := make([]byte, count)
	for i := range list {
		list[i] = byte(step * i)
	}
	return list
}

func cipherOf(t *testing.T, key []byte) *Cipher {
	t.Helper()
	c, e := New(key)
	if e != api.OK || c == nil {
		t.Fatalf("New of %d bytes: %v, %d", len(key), c, e)
	}
	return c
}

// someKeys are keys of both lengths: zeros, ones, and others.
func someKeys() [][]byte {
	var list [][]byte
	source := sample.Source(7)
	for _, n := range []int{16, 32} {
		list = append(list, make([]byte, n), bytes.Repeat([]byte{0xff}, n), rising(n, 1))
		for range 20 {
			list = append(list, source.Bytes(n))
		}
	}
	return list
}

// P2.1
func TestExamples(t *testing.T) {
	for _, x := range []struct{ key, plain, sealed string }{
		{"000102030405060708090a0b0c0d0e0f", "00112233445566778899aabbccddeeff", "69c4e0d86a7b0430d8cdb78070b4c55a"},
		{"000102030405060708090a0b0c0d0e0f101112131415161718191a1b1c1d1e1f", "00112233445566778899aabbccddeeff", "8ea2b7ca516745bfeafc49904b496089"},
		{"2b7e151628aed2a6abf7158809cf4f3c", "3243f6a8885a308d313198a2e0370734", "3925841d02dc09fbdc118597196a0b32"},
	} {
		c := cipherOf(t, fromHex(t, x.key))
		plain, sealed := block(fromHex(t, x.plain)), block(fromHex(t, x.sealed))
		if got := c.Encrypt(plain); got != sealed {
			t.Errorf("Encrypt(%x) = %x, not %x", plain, got, sealed)
		}
		if got := c.Decrypt(sealed); got != plain {
			t.Errorf("Decrypt(%x) = %x, not %x", sealed, got, plain)
		}
	}
}

// P2.1
func TestAgainstStandard(t *testing.T) {
	source := sample.Source(11)
	for _, key := range someKeys() {
		c := cipherOf(t, key)
		other, err := standard.NewCipher(key)
		if err != nil {
			t.Fatal(err)
		}
		for range 20 {
			b := block(source.Bytes(16))
			var want block
			other.Encrypt(want[:], b[:])
			if got := c.Encrypt(b); got != want {
				t.Fatalf("key %x: Encrypt(%x) = %x, not %x", key, b, got, want)
			}
			other.Decrypt(want[:], b[:])
			if got := c.Decrypt(b); got != want {
				t.Fatalf("key %x: Decrypt(%x) = %x, not %x", key, b, got, want)
			}
		}
	}
}

// P2.1
func TestKeysOfOtherLengths(t *testing.T) {
	if c, e := New(nil); c != nil || e != api.ErrKey {
		t.Errorf("New(nil): %v, %d", c, e)
	}
	room := make([]byte, 1<<16)
	for n := range 100 {
		if n == 16 || n == 32 {
			continue
		}
		if c, e := New(room[:n]); c != nil || e != api.ErrKey {
			t.Errorf("New of %d bytes: %v, %d", n, c, e)
		}
	}
	if c, e := New(room); c != nil || e != api.ErrKey {
		t.Errorf("New of %d bytes: %v, %d", len(room), c, e)
	}
}

// P2.1
func TestRounds(t *testing.T) {
	for n, want := range map[int]int{16: 10, 32: 14} {
		if got := cipherOf(t, make([]byte, n)).Rounds(); got != want {
			t.Errorf("%d bytes: %d rounds, not %d", n, got, want)
		}
	}
}

// P2.1
func TestRoundKeysOfExamples(t *testing.T) {
	short, long := "2b7e151628aed2a6abf7158809cf4f3c", "603deb1015ca71be2b73aef0857d77811f352c073b6108d72d9810a30914dff4"
	for _, x := range []struct {
		key  string
		n    int
		want string
	}{
		{short, 0, short},
		{short, 1, "a0fafe1788542cb123a339392a6c7605"},
		{short, 10, "d014f9a8c9ee2589e13f0cc8b6630ca6"},
		{long, 0, long[:32]},
		{long, 1, long[32:]},
		{long, 2, "9ba354118e6925afa51a8b5f2067fcde"},
		{long, 14, "fe4890d1e6188d0b046df344706c631e"},
	} {
		if got := cipherOf(t, fromHex(t, x.key)).Key(x.n); got != block(fromHex(t, x.want)) {
			t.Errorf("round key %d of %s: %x, not %s", x.n, x.key, got, x.want)
		}
	}
}

// wordOf is the word of a cipher's round keys at a place.
func wordOf(c *Cipher, place int) [4]byte {
	key := c.Key(place / 4)
	return [4]byte(key[4*(place%4):])
}

// P2.1: the words, one by one, as the chapter tells them.
func TestWords(t *testing.T) {
	for _, key := range someKeys() {
		c := cipherOf(t, key)
		k := len(key) / 4
		for place := range k {
			if got := wordOf(c, place); !bytes.Equal(got[:], key[4*place:4*place+4]) {
				t.Fatalf("key %x: word %d is %x", key, place, got)
			}
		}
		for place := k; place < 4*(k+7); place++ {
			word := wordOf(c, place-1)
			if place%k == 0 {
				word = [4]byte{field.Box(word[1]), field.Box(word[2]), field.Box(word[3]), field.Box(word[0])}
				constant := byte(1)
				for range place/k - 1 {
					constant = field.Mul(constant, 2)
				}
				word[0] ^= constant
			} else if k == 8 && place%8 == 4 {
				word = [4]byte{field.Box(word[0]), field.Box(word[1]), field.Box(word[2]), field.Box(word[3])}
			}
			ahead := wordOf(c, place-k)
			for i := range word {
				word[i] ^= ahead[i]
			}
			if got := wordOf(c, place); got != word {
				t.Fatalf("key %x: word %d is %x, not %x", key, place, got, word)
			}
		}
	}
}

// P2.1
func TestNoSuchRoundKey(t *testing.T) {
	for _, size := range []int{16, 32} {
		c := cipherOf(t, bytes.Repeat([]byte{0x5a}, size))
		for n := range c.Rounds() + 1 {
			if c.Key(n) == (block{}) {
				t.Errorf("%d bytes: round key %d is zeros", size, n)
			}
		}
		for _, n := range []int{-1, -2, math.MinInt, c.Rounds() + 1, c.Rounds() + 2, 15, 16, 99, math.MaxInt} {
			if got := c.Key(n); got != (block{}) {
				t.Errorf("%d bytes: round key %d is %x", size, n, got)
			}
		}
	}
}

// P2.1
func TestNilCipher(t *testing.T) {
	var c *Cipher
	b := block(rising(16, 17))
	if c.Encrypt(b) != (block{}) || c.Decrypt(b) != (block{}) {
		t.Error("a nil Cipher's blocks are not zeros")
	}
	if c.Rounds() != 0 {
		t.Errorf("a nil Cipher has %d rounds", c.Rounds())
	}
	for _, n := range []int{math.MinInt, -1, 0, 1, 10, 14, math.MaxInt} {
		if c.Key(n) != (block{}) {
			t.Errorf("a nil Cipher's round key %d is not zeros", n)
		}
	}
}

// P2.2
func TestThereAndBack(t *testing.T) {
	source := sample.Source(13)
	for _, key := range someKeys() {
		c := cipherOf(t, key)
		blocks := []block{{}, block(bytes.Repeat([]byte{0xff}, 16)), block(rising(16, 1))}
		for range 20 {
			blocks = append(blocks, block(source.Bytes(16)))
		}
		for _, b := range blocks {
			if got := c.Decrypt(c.Encrypt(b)); got != b {
				t.Fatalf("key %x: Decrypt(Encrypt(%x)) = %x", key, b, got)
			}
			if got := c.Encrypt(c.Decrypt(b)); got != b {
				t.Fatalf("key %x: Encrypt(Decrypt(%x)) = %x", key, b, got)
			}
		}
	}
}

// R3: the key is neither changed nor kept, nor is the room behind its end.
func TestKeyIsLeftAlone(t *testing.T) {
	for _, size := range []int{16, 32} {
		room := rising(64, 3)
		c := cipherOf(t, room[:size])
		if !bytes.Equal(room, rising(64, 3)) {
			t.Errorf("%d bytes: the key has changed", size)
		}
		b := block(rising(16, 17))
		sealed, first := c.Encrypt(b), c.Key(0)
		clear(room)
		if c.Encrypt(b) != sealed || c.Key(0) != first {
			t.Errorf("%d bytes: the cipher hangs on the caller's key", size)
		}
	}
}

// R4: a block's answer hangs on the key and the block alone, whoever asks beside it.
func TestManyAtOnce(t *testing.T) {
	c := cipherOf(t, rising(32, 5))
	b := block(rising(16, 17))
	want := c.Encrypt(b)
	answers := make(chan block)
	for range 8 {
		go func() {
			for range 50 {
				c.Decrypt(c.Encrypt(block{1}))
			}
			answers <- c.Encrypt(b)
		}()
	}
	for range 8 {
		if got := <-answers; got != want {
			t.Errorf("Encrypt(%x) = %x, not %x", b, got, want)
		}
	}
}
