package sample

import (
	"bytes"
	"testing"
)

func TestSameInEachRun(t *testing.T) {
	want := []byte{0x14, 0x1a, 0x9a, 0x66, 0x62, 0x8f, 0x14, 0x5b}
	if got := Bytes(8); !bytes.Equal(got, want) {
		t.Errorf("the first bytes: %x, not %x", got, want)
	}
}

func TestOneBehindTheOther(t *testing.T) {
	one, other := Source(5), Source(5)
	if got := append(one.Bytes(10), one.Bytes(20)...); !bytes.Equal(got, other.Bytes(30)) {
		t.Error("bytes hang on how many are asked for at once")
	}
	if bytes.Equal(one.Bytes(30), other.Bytes(31)[1:]) {
		t.Error("sources do not go on")
	}
}

func TestSourcesDiffer(t *testing.T) {
	one, other := Source(1), Source(2)
	if bytes.Equal(one.Bytes(30), other.Bytes(30)) {
		t.Error("two sources tell the same bytes")
	}
}

func TestBelow(t *testing.T) {
	source := Source(3)
	for _, limit := range []int{1, 2, 7, 300} {
		told := make([]int, limit)
		for range 40 * limit {
			told[source.Below(limit)]++
		}
		for n, count := range told {
			if count == 0 {
				t.Errorf("%d is never told below %d", n, limit)
			}
		}
	}
}

func TestPartsAreAll(t *testing.T) {
	source := Source(4)
	empty, some := 0, 0
	for n := range 500 {
		b := source.Bytes(n)
		parts := source.Parts(b)
		if !bytes.Equal(bytes.Join(parts, nil), b) {
			t.Fatalf("%d bytes: the parts are other bytes", n)
		}
		for _, part := range parts {
			if len(part) == 0 {
				empty++
			} else {
				some++
			}
		}
	}
	if empty == 0 || some < 1000 {
		t.Errorf("%d parts are empty, %d are not", empty, some)
	}
}
