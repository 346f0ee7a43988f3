// Package field is layer 1: two fields. See shared/doc/01-field.md.
package field

import (
	"math/bits"

	"casket/api"
)

// What is left of the modulus when its highest power is taken off: adding it is how a product that has grown out of the field comes back.
const (
	byteRest  = 0x1b // of x^8 + x^4 + x^3 + x + 1
	tweakRest = 0x87 // of x^128 + x^7 + x^2 + x + 1
)

const (
	boxAdded   = 0x63
	unboxAdded = 0x05 // what boxAdded becomes on the way back
)

// Mul is the product of two bytes.
func Mul(a, b byte) byte {
	var sum byte
	for i := range 8 {
		if b>>i&1 == 1 {
			sum ^= a
		}
		a = doubleByte(a)
	}
	return sum
}

func doubleByte(a byte) byte {
	return a<<1 ^ (a>>7)*byteRest
}

// Inverse is the byte whose product with a is 1; of 0 it is 0.
func Inverse(a byte) byte {
	// The 255 bytes beside 0 are a group, so a to the power 254 is the inverse; 254 is 2 + 4 + .. + 128.
	product := byte(1)
	for range 7 {
		a = Mul(a, a)
		product = Mul(product, a)
	}
	return product
}

// Box is what the cipher puts in a byte's place.
func Box(a byte) byte {
	b := Inverse(a)
	return b ^ turned(b, 1) ^ turned(b, 2) ^ turned(b, 3) ^ turned(b, 4) ^ boxAdded
}

// Unbox is the byte whose box a is.
func Unbox(a byte) byte {
	return Inverse(turned(a, 1) ^ turned(a, 3) ^ turned(a, 6) ^ unboxAdded)
}

func turned(a byte, places int) byte {
	return bits.RotateLeft8(a, places)
}

// Double is a times x.
func Double(a api.Half) api.Half {
	return api.Half{
		Low:  a.Low<<1 ^ (a.High>>63)*tweakRest,
		High: a.High<<1 ^ a.Low>>63,
	}
}

// Times is the product of two tweaks.
func Times(a, b api.Half) api.Half {
	var sum api.Half
	for _, word := range [2]uint64{b.Low, b.High} {
		for i := range 64 {
			if word>>i&1 == 1 {
				sum.Low ^= a.Low
				sum.High ^= a.High
			}
			a = Double(a)
		}
	}
	return sum
}

// Power is x to the power n; of n below 0 it is 1.
func Power(n int) api.Half {
	// By squares, from the highest bit down: n may be too great to be counted through.
	power := api.Half{Low: 1}
	for i := bits.Len(uint(max(n, 0))) - 1; i >= 0; i-- {
		power = Times(power, power)
		if n>>i&1 == 1 {
			power = Double(power)
		}
	}
	return power
}

// Bytes is a as 16 bytes, the lowest powers first.
func Bytes(a api.Half) [16]byte {
	var b [16]byte
	for k := range 8 {
		b[k] = byte(a.Low >> (8 * k))
		b[8+k] = byte(a.High >> (8 * k))
	}
	return b
}

// Of is the tweak whose bytes are b.
func Of(b [16]byte) api.Half {
	var a api.Half
	for k := range 8 {
		a.Low |= uint64(b[k]) << (8 * k)
		a.High |= uint64(b[8+k]) << (8 * k)
	}
	return a
}
