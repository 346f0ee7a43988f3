// Package aes is layer 2: a block cipher. See shared/doc/02-aes.md.
package aes

import (
	"casket/api"
	"casket/field"
)

const (
	maxRounds = 14
	maxWords  = 4 * (maxRounds + 1)
)

// Cipher is a key, made ready.
type Cipher struct {
	rounds int
	keys   [maxRounds + 1][16]byte
	box    [256]byte
	unbox  [256]byte
	twice  [256]byte
}

// New is the cipher of a key of 16 or 32 bytes.
func New(key []byte) (*Cipher, api.Errno) {
	if len(key) != 16 && len(key) != 32 {
		return nil, api.ErrKey
	}
	c := &Cipher{rounds: len(key)/4 + 6}
	c.fillTables()
	c.fillKeys(key)
	return c, api.OK
}

// fillTables spares each block the field's products, which cost far more than a look into a table.
func (c *Cipher) fillTables() {
	for i := range 256 {
		boxed := field.Box(byte(i))
		c.box[i] = boxed
		c.unbox[boxed] = byte(i)
		c.twice[i] = field.Mul(byte(i), 2)
	}
}

func (c *Cipher) fillKeys(key []byte) {
	words := c.words(key)
	for n := range c.rounds + 1 {
		for column := range 4 {
			copy(c.keys[n][4*column:], words[4*n+column][:])
		}
	}
}

// words are the words of the key; those behind 4 (k + 7) are left zero.
func (c *Cipher) words(key []byte) [maxWords][4]byte {
	var words [maxWords][4]byte
	k := len(key) / 4
	for place := range k {
		copy(words[place][:], key[4*place:])
	}
	constant := byte(1)
	for place := k; place < 4*(k+7); place++ {
		word := words[place-1]
		switch {
		case place%k == 0:
			word = c.boxWord([4]byte{word[1], word[2], word[3], word[0]})
			word[0] ^= constant
			constant = c.twice[constant]
		case k == 8 && place%8 == 4:
			word = c.boxWord(word)
		}
		for i := range 4 {
			words[place][i] = words[place-k][i] ^ word[i]
		}
	}
	return words
}

func (c *Cipher) boxWord(word [4]byte) [4]byte {
	for i := range 4 {
		word[i] = c.box[word[i]]
	}
	return word
}

// Encrypt is the block b, enciphered; zeros, of a nil Cipher.
func (c *Cipher) Encrypt(b [16]byte) [16]byte {
	if c == nil {
		return [16]byte{}
	}
	state := add(b, c.keys[0])
	for n := 1; n < c.rounds; n++ {
		state = c.mix(turnRows(replace(state, &c.box), 1))
		state = add(state, c.keys[n])
	}
	state = turnRows(replace(state, &c.box), 1)
	return add(state, c.keys[c.rounds])
}

// Decrypt is the block b, deciphered; zeros, of a nil Cipher.
func (c *Cipher) Decrypt(b [16]byte) [16]byte {
	if c == nil {
		return [16]byte{}
	}
	state := add(b, c.keys[c.rounds])
	for n := c.rounds - 1; n > 0; n-- {
		state = replace(turnRows(state, 3), &c.unbox)
		state = c.unmix(add(state, c.keys[n]))
	}
	state = replace(turnRows(state, 3), &c.unbox)
	return add(state, c.keys[0])
}

// Rounds is how many rounds there are: 10 or 14; 0, of a nil Cipher.
func (c *Cipher) Rounds() int {
	if c == nil {
		return 0
	}
	return c.rounds
}

// Key is the round key n; zeros, if there is none.
func (c *Cipher) Key(n int) [16]byte {
	if c == nil || n < 0 || n > c.rounds {
		return [16]byte{}
	}
	return c.keys[n]
}

func add(state, key [16]byte) [16]byte {
	for i := range 16 {
		state[i] ^= key[i]
	}
	return state
}

func replace(state [16]byte, table *[256]byte) [16]byte {
	for i := range 16 {
		state[i] = table[state[i]]
	}
	return state
}

// turnRows turns row r to the left by r columns, so many times. Four times are none, so three undo one.
func turnRows(state [16]byte, times int) [16]byte {
	var turned [16]byte
	for i := range 16 {
		row := i % 4
		turned[i] = state[(i+4*row*times)%16]
	}
	return turned
}

func (c *Cipher) mix(state [16]byte) [16]byte {
	for column := 0; column < 16; column += 4 {
		x, y, z, w := state[column], state[column+1], state[column+2], state[column+3]
		all := x ^ y ^ z ^ w
		// 2x + 3y + z + w is x + (x + y + z + w) + 2 (x + y): one product for each byte.
		state[column] ^= all ^ c.twice[x^y]
		state[column+1] ^= all ^ c.twice[y^z]
		state[column+2] ^= all ^ c.twice[z^w]
		state[column+3] ^= all ^ c.twice[w^x]
	}
	return state
}

// unmix undoes mix. Mixing four times changes nothing, so three times more undo one; two of them at once make 5x + 4z of x.
func (c *Cipher) unmix(state [16]byte) [16]byte {
	for column := 0; column < 16; column += 4 {
		even := c.twice[c.twice[state[column]^state[column+2]]]
		odd := c.twice[c.twice[state[column+1]^state[column+3]]]
		state[column] ^= even
		state[column+1] ^= odd
		state[column+2] ^= even
		state[column+3] ^= odd
	}
	return c.mix(state)
}
