package model

import (
	"bytes"
	"maps"
	"math"
	"reflect"
	"slices"
	"strings"
	"testing"

	"casket/api"
	"casket/head"
	"casket/plan"
	"casket/sample"
)

// headOf is a header of so many sectors, of which a step of a rekey takes some.
func headOf(sectors, slots, segment, journal int) api.Head {
	return api.Head{Generation: 1, Sectors: sectors, Slots: slots, Journal: journal, Segment: segment, Params: api.Params{Time: 1, Memory: 8, Lanes: 1}, Name: [16]byte([]byte("sixteen letters."))}
}

// opened is the model of a header, opened by its first passphrase.
func opened(t *testing.T, h api.Head, password string) *Model {
	t.Helper()
	m, e := New(h, []byte(password))
	if e != api.OK || m == nil {
		t.Fatal("New", e)
	}
	if e := m.Open([]byte(password)); e != api.OK {
		t.Fatal("Open", e)
	}
	return m
}

// is asks that calls were answered so.
func is(t *testing.T, what string, want api.Errno, got ...api.Errno) {
	t.Helper()
	for i, e := range got {
		if e != want {
			t.Errorf("%s: call %d: %d, not %d", what, i, e, want)
		}
	}
}

// tells asks what a model tells of itself.
func tells(t *testing.T, what string, m *Model, want api.Info) {
	t.Helper()
	if i, e := m.Info(); e != api.OK || !reflect.DeepEqual(i, want) {
		t.Errorf("%s: %+v, %d, not %+v", what, i, e, want)
	}
}

// reads asks what a sector has.
func reads(t *testing.T, what string, m *Model, n int, want []byte) {
	t.Helper()
	if b, e := m.Read(n); e != api.OK || !bytes.Equal(b, want) {
		t.Errorf("%s: sector %d: %d, or other bytes", what, n, e)
	}
}

// wild are numbers that no sector has, and no slot.
var wild = []int{math.MinInt, math.MinInt32, -1 << 32, -1<<32 + 1, -8, -1, 1 << 16, 1<<31 - 1, 1 << 32, 1<<32 + 1, math.MaxInt}

var zeros = make([]byte, 512)

// longest is as long as a passphrase may be.
var longest = strings.Repeat("x", 512)

// P25.1: headers that may not be, passphrases that are too long.
func TestNew(t *testing.T) {
	h := headOf(9, 2, 4, 16)
	refused := func(h api.Head, password []byte) {
		t.Helper()
		if m, e := New(h, password); m != nil || e != api.ErrArg {
			t.Errorf("New(%+v, %d bytes): %d", h, len(password), e)
		}
	}
	for _, wrong := range sample.WrongHeads(h) {
		refused(wrong, []byte("one"))
		refused(wrong, make([]byte, 513))
	}
	for _, size := range []int{513, 514, 1024, 70000} {
		refused(h, make([]byte, size))
	}
	for _, size := range []int{0, 1, 511, 512} {
		m, e := New(h, make([]byte, size))
		if e != api.OK || m.Open(make([]byte, size)) != api.OK {
			t.Errorf("%d bytes: %d", size, e)
			continue
		}
		tells(t, "a new one", m, api.Info{Head: h, Slots: []bool{true, false}, Epoch: 1})
		if w := m.Written(); len(w) != 0 {
			t.Errorf("written: %v", w)
		}
	}
}

// P25.1: at the ends of what may be.
func TestNewAtTheLimits(t *testing.T) {
	for _, h := range []api.Head{headOf(1, 1, 1, 16), headOf(1024, 8, 16, 256), headOf(1, 8, 6, 16)} {
		m := opened(t, h, longest)
		for n := range h.Sectors {
			reads(t, "a new one", m, n, zeros)
		}
		_, e := m.Read(h.Sectors)
		is(t, "behind the last sector", api.ErrRange, e)
		is(t, "behind the last slot", api.ErrRange, m.SlotAdd(h.Slots, nil), m.SlotRevoke(h.Slots))
		is(t, "the last sector", api.OK, m.Write(h.Sectors-1, sample.Bytes(512)))
		reads(t, "the last sector", m, h.Sectors-1, sample.Bytes(512))
	}
}

// P25.1: it is closed at first; a passphrase is the whole of it; what is refused leaves it as it was, open or closed.
func TestOpen(t *testing.T) {
	h := headOf(9, 3, 4, 16)
	m, _ := New(h, []byte("one"))
	others := []string{"", "o", "on", "one ", "One", "one\x00", "two", longest}
	for _, password := range others {
		is(t, "another one", api.ErrNoKey, m.Open([]byte(password)))
	}
	is(t, "too long", api.ErrArg, m.Open(make([]byte, 513)), m.Open(make([]byte, 70000)))
	is(t, "closed as it was", api.ErrClosed, m.Flush())
	is(t, "the right one", api.OK, m.Open([]byte("one")), m.Flush())
	is(t, "a slot", api.OK, m.SlotAdd(2, []byte("two")), m.Open([]byte("two")))
	want := api.Info{Head: h, Slot: 2, Slots: []bool{true, false, true}, Epoch: 1, Counter: 1}
	tells(t, "open, opened anew", m, want)
	is(t, "open, another one", api.ErrNoKey, m.Open([]byte("three")), m.Open(nil))
	is(t, "open, too long", api.ErrArg, m.Open(make([]byte, 513)))
	tells(t, "open as it was", m, want)
	is(t, "closed", api.OK, m.Close())
	is(t, "closed, another one", api.ErrNoKey, m.Open(nil))
	is(t, "closed, too long", api.ErrArg, m.Open(make([]byte, 513)))
	is(t, "closed as it was", api.ErrClosed, m.Flush())
	is(t, "opened again", api.OK, m.Open([]byte("one")))
	want.Slot = 0
	tells(t, "by the first slot", m, want)
}

// P25.1: the first slot of those that have a passphrase; an empty one is one too, and a slot without any opens nothing.
func TestOpenByTheFirstSlot(t *testing.T) {
	h := headOf(9, 8, 4, 16)
	m := opened(t, h, "one")
	slotIs := func(password string, want int) {
		t.Helper()
		is(t, password, api.OK, m.Open([]byte(password)))
		if i, _ := m.Info(); i.Slot != want {
			t.Errorf("%q: slot %d, not %d", password, i.Slot, want)
		}
	}
	is(t, "no passphrase is empty", api.ErrNoKey, m.Open(nil), m.Open([]byte{}))
	for at, password := range map[int]string{7: "two", 5: "two", 6: "one", 3: ""} {
		is(t, "SlotAdd", api.OK, m.SlotAdd(at, []byte(password)))
	}
	slotIs("one", 0)
	slotIs("two", 5)
	slotIs("", 3)
	is(t, "SlotRevoke", api.OK, m.SlotRevoke(0), m.SlotRevoke(5), m.SlotRevoke(3))
	slotIs("one", 6)
	slotIs("two", 7)
	is(t, "revoked", api.ErrNoKey, m.Open(nil))
	is(t, "SlotAdd", api.OK, m.SlotAdd(1, []byte("two")))
	slotIs("two", 1)
	// The slot that opened it may go: it stays open, and tells of it.
	is(t, "SlotRevoke", api.OK, m.SlotRevoke(1))
	tells(t, "its slot is gone", m, api.Info{Head: h, Slot: 1, Slots: []bool{6: true, 7: true}, Epoch: 1, Counter: 9})
}

// P25.2, P25.3: no model, one that no call made, one that was never opened, one that was closed: ErrClosed, whatever else is wrong.
func TestClosed(t *testing.T) {
	h := headOf(9, 2, 4, 16)
	fresh, _ := New(h, []byte("one"))
	closed, rekeying := opened(t, h, "one"), opened(t, h, "one")
	is(t, "ahead of it", api.OK, closed.Write(3, sample.Bytes(512)), closed.Close(), rekeying.RekeyStart(), rekeying.Close())
	for what, m := range map[string]*Model{"nil": nil, "no call made it": {}, "never opened": fresh, "closed": closed, "closed in a rekey": rekeying} {
		for _, n := range append([]int{0, 1, 3}, wild...) {
			b, e := m.Read(n)
			if len(b) != 0 {
				t.Errorf("%s: bytes beside %d", what, e)
			}
			is(t, what, api.ErrClosed, e, m.Write(n, zeros), m.Write(n, nil))
			is(t, what, api.ErrClosed, m.SlotAdd(n, []byte("two")), m.SlotAdd(n, make([]byte, 513)), m.SlotRevoke(n))
		}
		done, e := m.RekeyStep()
		i, f := m.Info()
		if done || !reflect.DeepEqual(i, api.Info{}) {
			t.Errorf("%s: %v beside %d, %+v beside %d", what, done, e, i, f)
		}
		is(t, what, api.ErrClosed, e, f, m.Flush(), m.RekeyStart(), m.Close(), m.Close())
	}
	var none *Model
	is(t, "nil", api.ErrClosed, none.Open([]byte("one")), none.Open(nil), none.Open(make([]byte, 513)))
	if none.Fork() != nil || len(none.Written()) != 0 {
		t.Error("nil: Fork, or Written")
	}
	// Nothing of that was done, and a closed one still tells what was written, and has forks, closed too.
	if w := closed.Written(); !slices.Equal(w, []int{3}) {
		t.Errorf("written: %v", w)
	}
	fork := closed.Fork()
	is(t, "a fork", api.ErrClosed, fork.Flush(), fork.Close())
	for what, m := range map[string]*Model{"closed": closed, "its fork": fork} {
		is(t, what, api.OK, m.Open([]byte("one")))
		tells(t, what, m, api.Info{Head: h, Slots: []bool{true, false}, Epoch: 1, Counter: 1})
		reads(t, what, m, 3, sample.Bytes(512))
	}
	is(t, "the rekey is still on", api.OK, rekeying.Open([]byte("one")))
	tells(t, "the rekey is still on", rekeying, api.Info{Head: h, Slots: []bool{true, false}, Epoch: 2, Left: 3, Counter: 1})
}

// P25.2: what was written last, or zeros; numbers and sizes that may not be.
func TestSectors(t *testing.T) {
	source := sample.Source(1)
	h := headOf(9, 2, 4, 16)
	m := opened(t, h, "one")
	has := map[int][]byte{}
	for range 60 {
		n := source.Below(9)
		has[n] = source.Bytes(512)
		is(t, "Write", api.OK, m.Write(n, has[n]))
	}
	is(t, "zeros", api.OK, m.Write(4, zeros), m.Flush())
	has[4] = zeros
	for _, n := range append([]int{9, 10, 1024}, wild...) {
		b, e := m.Read(n)
		if len(b) != 0 {
			t.Errorf("Read(%d): bytes", n)
		}
		is(t, "no sector", api.ErrRange, e, m.Write(n, zeros), m.Write(n, nil), m.Write(n, source.Bytes(511)))
	}
	for _, size := range []int{0, 1, 511, 513, 1024, 70000} {
		is(t, "no sector's bytes", api.ErrSize, m.Write(3, source.Bytes(size)), m.Write(8, source.Bytes(size)))
	}
	for n := range 9 {
		want, written := has[n]
		if !written {
			want = zeros
		}
		reads(t, "at the end", m, n, want)
	}
	tells(t, "at the end", m, api.Info{Head: h, Slots: []bool{true, false}, Epoch: 1, Counter: 61})
	if w := m.Written(); !slices.Equal(w, slices.Sorted(maps.Keys(has))) {
		t.Errorf("written: %v", w)
	}
}

// P25.2: slots are added and revoked; what is refused is the first of what is wrong, and changes nothing.
func TestSlots(t *testing.T) {
	h := headOf(9, 3, 4, 16)
	m := opened(t, h, "one")
	is(t, "a taken slot", api.ErrTwice, m.SlotAdd(0, []byte("two")), m.SlotAdd(0, []byte("one")), m.SlotAdd(0, nil))
	is(t, "a slot that nobody has", api.ErrNone, m.SlotRevoke(1), m.SlotRevoke(2))
	is(t, "the last one", api.ErrLast, m.SlotRevoke(0))
	for _, at := range append([]int{3, 4}, wild...) {
		is(t, "no slot", api.ErrRange, m.SlotAdd(at, []byte("two")), m.SlotAdd(at, nil), m.SlotRevoke(at))
		is(t, "no slot, too long", api.ErrArg, m.SlotAdd(at, make([]byte, 513)))
	}
	is(t, "too long", api.ErrArg, m.SlotAdd(0, make([]byte, 513)), m.SlotAdd(1, make([]byte, 513)))
	want := api.Info{Head: h, Slots: []bool{true, false, false}, Epoch: 1}
	tells(t, "all was refused", m, want)
	is(t, "right ones", api.OK, m.SlotAdd(1, nil), m.SlotAdd(2, []byte(longest)), m.SlotRevoke(0))
	want.Slots, want.Counter = []bool{false, true, true}, 3
	tells(t, "behind three", m, want)
	is(t, "revoked", api.ErrNone, m.SlotRevoke(0))
	is(t, "an empty passphrase is one", api.ErrTwice, m.SlotAdd(1, []byte("two")))
	is(t, "revoked, added", api.OK, m.SlotAdd(0, []byte("four")), m.SlotRevoke(1), m.SlotRevoke(2))
	is(t, "the last one again", api.ErrLast, m.SlotRevoke(0))
	is(t, "those revoked", api.ErrNoKey, m.Open([]byte("one")), m.Open(nil), m.Open([]byte(longest)))
	is(t, "the one that is left", api.OK, m.Open([]byte("four")))
	// A rekey is told of ahead of slots that may not be, and behind a passphrase that is too long.
	is(t, "RekeyStart", api.OK, m.RekeyStart())
	for _, at := range append([]int{0, 1, 2, 3}, wild...) {
		is(t, "a rekey", api.ErrBusy, m.SlotAdd(at, []byte("two")), m.SlotRevoke(at))
		is(t, "a rekey, too long", api.ErrArg, m.SlotAdd(at, make([]byte, 513)))
	}
	tells(t, "a rekey", m, api.Info{Head: h, Slots: []bool{true, false, false}, Epoch: 2, Left: 3, Counter: 7})
}

// P25.2: a rekey takes as many steps as the plan has; each is counted, and the last one twice.
func TestRekeys(t *testing.T) {
	for sectors := range 40 {
		for segment := 1; segment <= api.MaxSegment; segment++ {
			h := headOf(sectors+1, 1, segment, 40)
			m := opened(t, h, "one")
			want := api.Info{Head: h, Slots: []bool{true}, Epoch: 1}
			r := api.Root{}
			for range 2 {
				done, e := m.RekeyStep()
				if done || e != api.ErrIdle {
					t.Errorf("none is on: %v, %d", done, e)
				}
				is(t, "RekeyStart", api.OK, m.RekeyStart())
				r.Rekeying = true
				want.Epoch++
				want.Counter++
				for ended := false; !ended; {
					want.Left, _ = plan.Steps(h, r)
					tells(t, "a rekey", m, want)
					is(t, "one is on", api.ErrBusy, m.RekeyStart())
					r, ended, _ = plan.After(h, r)
					if done, e := m.RekeyStep(); done != ended || e != api.OK {
						t.Fatalf("%+v: a step: %v, %d", h, done, e)
					}
					want.Counter++
				}
				want.Left = 0
				want.Counter++
				tells(t, "behind a rekey", m, want)
			}
			if most := uint64(2 * (2 + plan.Bound(h, 0))); want.Counter != most {
				t.Errorf("%+v: the counter is %d, not %d", h, want.Counter, most)
			}
		}
	}
}

// P25.2: reads are the same in a rekey, and it is written and flushed, closed and opened in it.
func TestInARekey(t *testing.T) {
	source := sample.Source(2)
	h := headOf(10, 2, 4, 16)
	m := opened(t, h, "one")
	has := slices.Repeat([][]byte{zeros}, 10)
	look := func(what string) {
		t.Helper()
		for n, b := range has {
			reads(t, what, m, n, b)
		}
		n := source.Below(10)
		has[n] = source.Bytes(512)
		is(t, what, api.OK, m.Write(n, has[n]), m.Flush(), m.Close(), m.Open([]byte("one")))
	}
	look("at first")
	is(t, "RekeyStart", api.OK, m.RekeyStart())
	for i, want := range []bool{false, false, true} {
		look("a rekey")
		if done, e := m.RekeyStep(); done != want || e != api.OK {
			t.Errorf("step %d: %v, %d", i, done, e)
		}
	}
	look("behind it")
	tells(t, "behind it", m, api.Info{Head: h, Slots: []bool{true, false}, Epoch: 2, Counter: 10})
}

// P25.2: the last epoch that there is.
func TestLastEpoch(t *testing.T) {
	h := headOf(3, 1, 4, 16)
	m := opened(t, h, "one")
	m.epoch = lastEpoch - 1
	is(t, "the last but one", api.OK, m.RekeyStart())
	is(t, "a rekey", api.ErrBusy, m.RekeyStart())
	if done, e := m.RekeyStep(); !done || e != api.OK {
		t.Errorf("a step: %v, %d", done, e)
	}
	is(t, "the last one", api.ErrFull, m.RekeyStart())
	tells(t, "the last one", m, api.Info{Head: h, Slots: []bool{true}, Epoch: lastEpoch, Counter: 3})
}

// P25.2: the counter goes round behind the last number.
func TestCounterGoesRound(t *testing.T) {
	h := headOf(3, 1, 4, 16)
	m := opened(t, h, "one")
	m.root.Counter = math.MaxUint64
	is(t, "Write", api.OK, m.Write(0, zeros))
	tells(t, "behind the last one", m, api.Info{Head: h, Slots: []bool{true}, Epoch: 1})
}

// P25.3: the sectors that were written, rising, whatever they have; others are not among them.
func TestWritten(t *testing.T) {
	m := opened(t, headOf(1024, 1, 16, 40), "one")
	written := func(want ...int) {
		t.Helper()
		if w := m.Written(); !slices.Equal(w, want) {
			t.Errorf("written: %v, not %v", w, want)
		}
	}
	written()
	m.Read(5)
	m.Write(1024, zeros)
	m.Write(7, nil)
	written()
	for _, n := range []int{1023, 5, 0, 64, 5, 63, 512, 1} {
		is(t, "Write", api.OK, m.Write(n, zeros))
	}
	written(0, 1, 5, 63, 64, 512, 1023)
	is(t, "others", api.OK, m.RekeyStart(), m.Flush())
	m.RekeyStep()
	is(t, "closed", api.OK, m.Close())
	written(0, 1, 5, 63, 64, 512, 1023)
}

// P25.3: a fork is the same, and goes on by itself.
func TestFork(t *testing.T) {
	h := headOf(10, 3, 4, 16)
	x, y := sample.Bytes(512), bytes.Repeat([]byte("y"), 512)
	m := opened(t, h, "one")
	is(t, "ahead", api.OK, m.Write(3, x), m.SlotAdd(1, []byte("two")), m.Open([]byte("two")), m.RekeyStart())
	m.RekeyStep()
	same := func(what string, m *Model) {
		t.Helper()
		tells(t, what, m, api.Info{Head: h, Slot: 1, Slots: []bool{true, true, false}, Epoch: 2, Left: 2, Counter: 4})
		reads(t, what, m, 3, x)
		reads(t, what, m, 4, zeros)
		if w := m.Written(); !slices.Equal(w, []int{3}) {
			t.Errorf("%s: written: %v", what, w)
		}
		is(t, what, api.ErrBusy, m.RekeyStart())
		is(t, what, api.OK, m.Open([]byte("one")), m.Open([]byte("two")))
	}
	change := func(m *Model) {
		t.Helper()
		is(t, "changes", api.OK, m.Write(3, y), m.Write(4, y))
		for done := false; !done; {
			done, _ = m.RekeyStep()
		}
		is(t, "changes", api.OK, m.SlotRevoke(0), m.SlotAdd(2, []byte("three")), m.SlotRevoke(1), m.RekeyStart(), m.Close())
	}
	fork := m.Fork()
	same("the fork", fork)
	same("the first", m)
	change(fork)
	same("the fork was changed", m)
	second := m.Fork()
	change(m)
	same("the first was changed", second)
	is(t, "the forks' slots", api.ErrNoKey, m.Open([]byte("two")), fork.Open([]byte("one")))
}

// R3: what is handed in is not changed, and not kept; what is answered is new memory.
func TestMemory(t *testing.T) {
	h := headOf(9, 2, 4, 16)
	password, b := []byte("one, and more"), sample.Bytes(600)
	m, e := New(h, password[:3])
	is(t, "New", api.OK, e)
	clear(password)
	is(t, "Open", api.OK, m.Open([]byte("one")))
	copy(password, "two, and more")
	is(t, "SlotAdd", api.OK, m.SlotAdd(1, password[:3]), m.Write(3, b[:512]))
	if string(password) != "two, and more" || !bytes.Equal(b, sample.Bytes(600)) {
		t.Error("what was handed in is another one")
	}
	fork := m.Fork()
	clear(password)
	clear(b)
	for what, m := range map[string]*Model{"the first": m, "the fork": fork} {
		is(t, what, api.OK, m.Open([]byte("two")))
		reads(t, what, m, 3, sample.Bytes(512))
		for _, n := range []int{3, 4} {
			if wrong := sample.NotNew(func() []byte { b, _ := m.Read(n); return b }); wrong != "" {
				t.Errorf("%s: Read(%d): %s", what, n, wrong)
			}
		}
		i, _ := m.Info()
		clear(i.Slots[:cap(i.Slots)])
		tells(t, what, m, api.Info{Head: h, Slot: 1, Slots: []bool{true, true}, Epoch: 1, Counter: 2})
		w := m.Written()
		clear(w[:cap(w)])
		if w := m.Written(); !slices.Equal(w, []int{3}) {
			t.Errorf("%s: written: %v", what, w)
		}
	}
}

// P25.1: a header is asked for by layer 11's word alone.
func TestHeads(t *testing.T) {
	source := sample.Source(3)
	right := 0
	for range 4000 {
		h := headOf(source.Below(1100), source.Below(10), source.Below(18), 12+source.Below(20))
		h.Params.Memory = 7 + source.Below(3)
		m, e := New(h, nil)
		if want := head.Check(h); e != want || (m == nil) != (want != api.OK) {
			t.Errorf("New(%+v): %d, not %d", h, e, want)
		}
		if e == api.OK {
			right++
		}
	}
	if right < 300 || right > 3000 {
		t.Errorf("%d of them may be", right)
	}
}
