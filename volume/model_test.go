package volume

import (
	"bytes"
	"maps"
	"slices"
	"strings"
	"testing"

	"casket/api"
	"casket/disk"
	"casket/sample"
)

// state is what a volume should answer, as chapter 25 words it, without a disk.
type state struct {
	h        api.Head
	sectors  map[int][]byte
	slots    map[int]string
	epoch    int
	counter  uint64
	rekeying bool
	frontier int
	open     bool
	by       int // the slot that opened it
}

// newState is of a volume that was formatted with a passphrase.
func newState(h api.Head, password string) *state {
	return &state{h: h, sectors: map[int][]byte{}, slots: map[int]string{0: password}, epoch: 1}
}

// fork is another one that is the same. Bytes are never changed where they lie.
func (m *state) fork() *state {
	other := *m
	other.sectors, other.slots = maps.Clone(m.sectors), maps.Clone(m.slots)
	return &other
}

func (m *state) opens(password string) api.Errno {
	if len(password) > 512 {
		return api.ErrArg
	}
	for at := range m.h.Slots {
		if p, has := m.slots[at]; has && p == password {
			m.open, m.by = true, at
			return api.OK
		}
	}
	return api.ErrNoKey
}

// refused is the first error that holds of a volume that is open; if none does, what is to be done is done.
func (m *state) refused(does func(), first ...any) api.Errno {
	if !m.open {
		return api.ErrClosed
	}
	for i := 0; i < len(first); i += 2 {
		if first[i].(bool) {
			return first[i+1].(api.Errno)
		}
	}
	does()
	return api.OK
}

func (m *state) noSector(n int) bool { return n < 0 || n >= m.h.Sectors }
func (m *state) noSlot(at int) bool  { return at < 0 || at >= m.h.Slots }

func (m *state) has(n int) []byte {
	if b, written := m.sectors[n]; written {
		return b
	}
	return make([]byte, 512)
}

func (m *state) read(n int) (b []byte, e api.Errno) {
	e = m.refused(func() { b = m.has(n) }, m.noSector(n), api.ErrRange)
	return b, e
}

func (m *state) write(n int, b []byte) api.Errno {
	return m.refused(func() {
		m.sectors[n] = bytes.Clone(b)
		m.counter++
	}, m.noSector(n), api.ErrRange, len(b) != 512, api.ErrSize)
}

func (m *state) flush() api.Errno {
	return m.refused(func() {})
}

func (m *state) slotAdd(at int, password string) api.Errno {
	_, has := m.slots[at]
	return m.refused(func() {
		m.slots[at] = password
		m.counter++
	}, len(password) > 512, api.ErrArg, m.rekeying, api.ErrBusy, m.noSlot(at), api.ErrRange, has, api.ErrTwice)
}

func (m *state) slotRevoke(at int) api.Errno {
	_, has := m.slots[at]
	return m.refused(func() {
		delete(m.slots, at)
		m.counter++
	}, m.rekeying, api.ErrBusy, m.noSlot(at), api.ErrRange, !has, api.ErrNone, len(m.slots) == 1, api.ErrLast)
}

func (m *state) rekeyStart() api.Errno {
	return m.refused(func() {
		m.rekeying, m.frontier = true, 0
		m.epoch++
		m.counter++
	}, m.rekeying, api.ErrBusy)
}

// move is the part of a step that takes sectors, and end the part that ends a rekey.
func (m *state) move() {
	m.frontier = min(m.frontier+m.h.Segment, m.h.Sectors)
	m.counter++
}

func (m *state) end() {
	m.rekeying, m.frontier = false, 0
	m.counter++
}

func (m *state) rekeyStep() (done bool, e api.Errno) {
	e = m.refused(func() {
		if m.frontier < m.h.Sectors {
			m.move()
		}
		if m.frontier == m.h.Sectors {
			m.end()
			done = true
		}
	}, !m.rekeying, api.ErrIdle)
	return done, e
}

func (m *state) left() int {
	if !m.rekeying {
		return 0
	}
	return max(1, (m.h.Sectors-m.frontier+m.h.Segment-1)/m.h.Segment)
}

func (m *state) info() (i api.Info, e api.Errno) {
	e = m.refused(func() {
		i = api.Info{Head: m.h, Slot: m.by, Slots: m.taken(), Epoch: m.epoch, Left: m.left(), Counter: m.counter}
	})
	return i, e
}

func (m *state) taken() []bool {
	list := make([]bool, m.h.Slots)
	for at := range m.slots {
		list[at] = true
	}
	return list
}

func (m *state) close() api.Errno {
	return m.refused(func() { m.open = false })
}

// played is a volume beside its model.
type played struct {
	t      *testing.T
	d      *disk.Disk
	v      *Volume
	m      *state
	source *sample.Source
}

// is asks that a call was answered as the model does.
func (p *played) is(what string, got, want api.Errno) {
	p.t.Helper()
	if got != want {
		p.t.Fatalf("%s: %d, not %d", what, got, want)
	}
}

// reads asks what a sector reads.
func (p *played) reads(n int) {
	p.t.Helper()
	b, e := p.v.Read(n)
	want, f := p.m.read(n)
	p.is("Read", e, f)
	if !bytes.Equal(b, want) {
		p.t.Fatalf("sector %d: other bytes", n)
	}
}

// tells asks what the volume tells of itself.
func (p *played) tells() {
	p.t.Helper()
	i, e := p.v.Info()
	want, f := p.m.info()
	p.is("Info", e, f)
	if !sameInfo(i, want) {
		p.t.Fatalf("Info: %+v, not %+v", i, want)
	}
}

// password is a right one, or another one, now and then too long.
func (p *played) password() string {
	list := []string{"", "one", "two", "three", strings.Repeat("x", 512), strings.Repeat("x", 513)}
	return list[p.source.Below(len(list))]
}

// open opens the volume, whether it was closed or not: what was written is there, as no crash came between.
func (p *played) open(password string) {
	p.t.Helper()
	v, e := Open(p.d, []byte(password))
	p.is("Open", e, p.m.opens(password))
	if e == api.OK {
		p.v = v
	}
}

// anyCall is one of all, with right arguments or wrong ones.
func (p *played) anyCall() {
	p.t.Helper()
	n, at := p.source.Below(p.m.h.Sectors+2)-1, p.source.Below(p.m.h.Slots+2)-1
	switch p.source.Below(24) {
	case 0, 1, 2, 3, 4, 5:
		b := p.source.Bytes(512)
		p.is("Write", p.v.Write(n, b), p.m.write(n, b))
	case 6:
		b := p.source.Bytes(p.source.Below(1024))
		p.is("Write", p.v.Write(n, b), p.m.write(n, b))
	case 7, 8:
		p.reads(n)
	case 9:
		p.is("Flush", p.v.Flush(), p.m.flush())
	case 10, 11, 12:
		password := p.password()
		p.is("SlotAdd", p.v.SlotAdd(at, []byte(password), saltOf(p.source.Below(99))), p.m.slotAdd(at, password))
	case 13, 14:
		p.is("SlotRevoke", p.v.SlotRevoke(at), p.m.slotRevoke(at))
	case 15:
		p.is("RekeyStart", p.v.RekeyStart(keysOf(p.source.Below(99))), p.m.rekeyStart())
	case 16, 17, 18, 19:
		done, e := p.v.RekeyStep()
		want, f := p.m.rekeyStep()
		p.is("RekeyStep", e, f)
		if done != want {
			p.t.Fatalf("RekeyStep: %v, not %v", done, want)
		}
	case 20:
		p.tells()
	case 21:
		p.is("Close", p.v.Close(), p.m.close())
	case 22, 23:
		p.open(p.password())
	}
}

// P24.5: any calls, with right arguments and wrong ones: each is answered as the model does.
func TestAsTheModel(t *testing.T) {
	rekeys := 0
	for run := range 60 {
		source := sample.Source(700 + run)
		segment := 1 + source.Below(8)
		h := headOf(1+source.Below(30), 1+source.Below(5), segment, 16+segment+source.Below(30))
		p := &played{t: t, d: formatted(t, h, "one"), m: newState(h, "one"), source: &source}
		p.open("one")
		for range 120 {
			p.anyCall()
		}
		p.open(p.m.slots[slices.Min(slices.Collect(maps.Keys(p.m.slots)))])
		for n := -1; n <= h.Sectors; n++ {
			p.reads(n)
		}
		p.tells()
		rekeys += p.m.epoch - 1
	}
	if rekeys < 60 {
		t.Errorf("%d rekeys", rekeys)
	}
}

// P24.5, P5: a whole rekey of a greater volume, with writes in between.
func TestGreaterVolume(t *testing.T) {
	source := sample.Source(8)
	h := headOf(300, 8, 16, 26)
	p := &played{t: t, d: formatted(t, h, "one"), m: newState(h, "one"), source: &source}
	p.open("one")
	write := func(n int) {
		b := source.Bytes(512)
		p.is("Write", p.v.Write(n, b), p.m.write(n, b))
	}
	for n := range 300 {
		if n%7 != 3 {
			write(n)
		}
	}
	p.is("RekeyStart", p.v.RekeyStart(keysOf(2)), p.m.rekeyStart())
	steps := p.m.left()
	for range steps {
		p.tells()
		write(source.Below(300))
		done, e := p.v.RekeyStep()
		want, f := p.m.rekeyStep()
		if p.is("RekeyStep", e, f); done != want {
			t.Fatalf("RekeyStep: %v, not %v", done, want)
		}
	}
	if p.m.rekeying || steps != 19 {
		t.Errorf("%d steps, and it is not done", steps)
	}
	p.open("one")
	for n := range 300 {
		p.reads(n)
	}
	p.tells()
}
