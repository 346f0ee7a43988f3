package sample

import (
	"bytes"
	"testing"
)

func TestSameInEachRun(t *testing.T) {
	want := []byte{0x14, 0x1a, 0x9a, 0x66, 0x62, 0x8f, 0x14, 0x5b}
	if got := Bytes(8); !bytes.Equal(got, want) {
		t.Errorf("the first bytes: %x, not %x", got, want)
	}
}

func TestOneBehindTheOther(t *testing.T) {
	one, other := Source(5), Source(5)
	if got := append(one.Bytes(10), one.Bytes(20)...); !bytes.Equal(got, other.Bytes(30)) {
		t.Error("bytes hang on how many are asked for at once")
	}
	if bytes.Equal(one.Bytes(30), other.Bytes(31)[1:]) {
		t.Error("sources do not go on")
	}
}

func TestSourcesDiffer(t *testing.T) {
	one, other := Source(1), Source(2)
	if bytes.Equal(one.Bytes(30), other.Bytes(30)) {
		t.Error("two sources tell the same bytes")
	}
}
