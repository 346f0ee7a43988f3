package sample

import (
	"bytes"
	"slices"
	"testing"

	"casket/api"
	"casket/disk"
	"casket/head"
)

func TestSameInEachRun(t *testing.T) {
	want := []byte{0x14, 0x1a, 0x9a, 0x66, 0x62, 0x8f, 0x14, 0x5b}
	if got := Bytes(8); !bytes.Equal(got, want) {
		t.Errorf("the first bytes: %x, not %x", got, want)
	}
}

func TestOneBehindTheOther(t *testing.T) {
	one, other := Source(5), Source(5)
	if got := append(one.Bytes(10), one.Bytes(20)...); !bytes.Equal(got, other.Bytes(30)) {
		t.Error("bytes hang on how many are asked for at once")
	}
	if bytes.Equal(one.Bytes(30), other.Bytes(31)[1:]) {
		t.Error("sources do not go on")
	}
}

func TestSourcesDiffer(t *testing.T) {
	one, other := Source(1), Source(2)
	if bytes.Equal(one.Bytes(30), other.Bytes(30)) {
		t.Error("two sources tell the same bytes")
	}
}

func TestBelow(t *testing.T) {
	source := Source(3)
	for _, limit := range []int{1, 2, 7, 300} {
		told := make([]int, limit)
		for range 40 * limit {
			told[source.Below(limit)]++
		}
		for n, count := range told {
			if count == 0 {
				t.Errorf("%d is never told below %d", n, limit)
			}
		}
	}
}

func TestPartsAreAll(t *testing.T) {
	source := Source(4)
	empty, some := 0, 0
	for n := range 500 {
		b := source.Bytes(n)
		parts := source.Parts(b)
		if !bytes.Equal(bytes.Join(parts, nil), b) {
			t.Fatalf("%d bytes: the parts are other bytes", n)
		}
		for _, part := range parts {
			if len(part) == 0 {
				empty++
			} else {
				some++
			}
		}
	}
	if empty == 0 || some < 1000 {
		t.Errorf("%d parts are empty, %d are not", empty, some)
	}
}

func TestNotNew(t *testing.T) {
	kept := Bytes(40)
	for _, x := range []struct {
		name string
		ask  func() []byte
		want string
	}{
		{"a copy", func() []byte { return bytes.Clone(kept) }, ""},
		{"nothing", func() []byte { return nil }, ""},
		{"a copy with room", func() []byte { return append(make([]byte, 0, 80), kept...) }, ""},
		{"a copy with more behind it", func() []byte { return bytes.Clone(kept)[:30] }, "bytes are in the room behind the answer"},
		{"what is kept", func() []byte { return kept }, "answers share memory"},
		{"a piece of what is kept", func() []byte { return kept[:10:10] }, "answers share memory"},
	} {
		if got := NotNew(x.ask); got != x.want {
			t.Errorf("%s: %q, not %q", x.name, got, x.want)
		}
	}
}

// Answers that are cut off one list: each lies in the room behind the one ahead.
func TestNotNewLooksAtTheRoom(t *testing.T) {
	for _, text := range []string{"0123456789", "\x00\x00\x00"} {
		room := make([]byte, 100)
		ask := func() []byte {
			answer := room[:copy(room, text)]
			room = room[len(text):]
			return answer
		}
		if got := NotNew(func() []byte { return bytes.Clone(ask()) }); got != "" {
			t.Errorf("%q, copied: %q", text, got)
		}
		if got := NotNew(func() []byte { return ask()[:len(text):len(text)] }); got != "" {
			t.Errorf("%q, without the room: %q", text, got)
		}
		if got := NotNew(ask); got == "" {
			t.Errorf("%q: the room behind an answer is another answer's", text)
		}
	}
}

// Answers that are made again and again in the same memory, and one that is handed out behind a copy of it.
func TestNotNewLooksAtEachAnswer(t *testing.T) {
	kept := make([]byte, 10)
	again := func() []byte { return kept[:copy(kept, "0123456789")] }
	if got := NotNew(again); got != "answers share memory" {
		t.Errorf("made anew in the same memory: %q", got)
	}
	asked := 0
	later := func() []byte {
		asked++
		if asked == 1 {
			return bytes.Clone(kept)
		}
		return kept
	}
	if got := NotNew(later); got != "answers share memory" {
		t.Errorf("handed out behind a copy: %q", got)
	}
}

// All that a crash may keep, each once, where that is not too much; else so many, each of which may be kept.
func TestKeeps(t *testing.T) {
	source := Source(6)
	for _, x := range []struct {
		unsure     []api.Kept
		most, want int
	}{
		{nil, 10, 1},
		{[]api.Kept{{Block: 3, Writes: 1}}, 10, 2},
		{[]api.Kept{{Block: 3, Writes: 2}, {Block: 7, Writes: 1}, {Block: 9, Writes: 3}}, 24, 24},
		{[]api.Kept{{Block: 3, Writes: 2}, {Block: 7, Writes: 1}, {Block: 9, Writes: 3}}, 23, 23},
		{slices.Repeat([]api.Kept{{Block: 1, Writes: 5}}, 50), 9, 9},
	} {
		told, count := map[string]int{}, 0
		for keep := range source.Keeps(x.unsure, x.most) {
			count++
			text := ""
			for i, k := range keep {
				if k.Block != x.unsure[i].Block || k.Writes < 0 || k.Writes > x.unsure[i].Writes {
					t.Errorf("%v of %v", keep, x.unsure)
				}
				text += string(rune('0' + k.Writes))
			}
			if len(keep) != len(x.unsure) {
				t.Errorf("%v of %v", keep, x.unsure)
			}
			told[text]++
		}
		if count != x.want || x.want != 23 && len(told) != count {
			t.Errorf("%v, at most %d: %d, %d of them unlike", x.unsure, x.most, count, len(told))
		}
	}
	for range source.Keeps([]api.Kept{{Block: 3, Writes: 9}}, 10) {
		break
	}
}

func TestWrongHeads(t *testing.T) {
	for _, segment := range []int{1, 6, 7, 16} {
		h := api.Head{Generation: 7, Sectors: 100, Slots: 3, Journal: 40, Segment: segment, Params: api.Params{Time: 1, Memory: 16, Lanes: 2}, Name: [16]byte{1}}
		if e := head.Check(h); e != api.OK {
			t.Fatal(e)
		}
		for _, wrong := range WrongHeads(h) {
			if e := head.Check(wrong); e != api.ErrArg {
				t.Errorf("%+v: %d", wrong, e)
			}
		}
	}
}

// Two disks are the same, till one of them has something else: a length, a power, a block for sure, one of its unsure writes, or how many it has.
func TestSameDisks(t *testing.T) {
	write := func(d *disk.Disk, n int, texts ...string) {
		for _, text := range texts {
			b := make([]byte, 512)
			copy(b, text)
			if e := d.Write(n, b); e != api.OK {
				t.Fatal("Write", e)
			}
		}
	}
	one, _ := disk.New(9)
	write(one, 2, "sure")
	one.Flush()
	write(one, 2, "first", "second", "third")
	write(one, 5, "first")
	if !SameDisks(one, one.Fork()) {
		t.Error("a fork is another one")
	}
	for what, change := range map[string]func(d *disk.Disk){
		"off":              func(d *disk.Disk) { d.Stop(0) },
		"flushed":          func(d *disk.Disk) { d.Flush() },
		"a block more":     func(d *disk.Disk) { write(d, 8, "") },
		"a write more":     func(d *disk.Disk) { write(d, 2, "third") },
		"crashed":          func(d *disk.Disk) { d.Crash(nil) },
		"a sure block":     func(d *disk.Disk) { d.Tamper(7, Bytes(512)) },
		"another sure one": func(d *disk.Disk) { d.Tamper(2, Bytes(512)); write(d, 2, "first", "second", "third") },
		"another first one": func(d *disk.Disk) {
			d.Crash([]api.Kept{{Block: 5, Writes: 0}})
			write(d, 2, "1st", "second", "third")
			write(d, 5, "first")
		},
		"another one":      func(d *disk.Disk) { d.Crash(nil); write(d, 2, "first", "2nd", "third"); write(d, 5, "first") },
		"another last one": func(d *disk.Disk) { d.Crash(nil); write(d, 2, "first", "second", "3rd"); write(d, 5, "first") },
	} {
		other := one.Fork()
		change(other)
		if SameDisks(one, other) || SameDisks(other, one) {
			t.Errorf("%s: it is the same", what)
		}
	}
	again := one.Fork()
	again.Crash(nil)
	write(again, 5, "first")
	write(again, 2, "first", "second", "third")
	short, _ := disk.New(8)
	if !SameDisks(one, again) || SameDisks(one, short) || SameDisks(short, one) {
		t.Error("written anew it is another one, or a shorter one is the same")
	}
}
