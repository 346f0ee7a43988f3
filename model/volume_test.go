package model

import (
	"bytes"
	"reflect"
	"slices"
	"testing"

	"casket/api"
	"casket/disk"
	"casket/head"
	"casket/sample"
	"casket/volume"
)

// pair is a volume beside its model: each call is made of both, and answered alike.
type pair struct {
	t      *testing.T
	h      api.Head
	d      *disk.Disk
	v      *volume.Volume
	m      *Model
	source *sample.Source
}

// newPair is of a volume that was formatted, and is not open yet.
func newPair(t *testing.T, h api.Head, password string, source *sample.Source) *pair {
	t.Helper()
	l, _ := head.Layout(h)
	d, _ := disk.New(l.Blocks)
	m, want := New(h, []byte(password))
	fresh := api.Fresh{Master: [32]byte(source.Bytes(32)), Salt: [16]byte(source.Bytes(16)), Keys: [64]byte(source.Bytes(64))}
	if e := volume.Format(d, h, []byte(password), fresh); e != want || e != api.OK {
		t.Fatalf("Format: %d, New: %d", e, want)
	}
	return &pair{t: t, h: h, d: d, m: m, source: source}
}

// same asks that a call was answered alike. If it was refused, the disk is as it was ahead of it.
func (p *pair) same(what string, ask, want func() api.Errno) {
	p.t.Helper()
	before := p.d.Fork()
	e := ask()
	if f := want(); e != f {
		p.t.Fatalf("%s: %d, and the model's is %d", what, e, f)
	}
	if e != api.OK && !sample.SameDisks(p.d, before) {
		p.t.Fatalf("%s: refused by %d, and the disk is another one", what, e)
	}
}

func (p *pair) open(password []byte) {
	p.t.Helper()
	p.same("Open", func() api.Errno {
		v, e := volume.Open(p.d, password)
		if e == api.OK {
			p.v = v
		}
		return e
	}, func() api.Errno { return p.m.Open(password) })
}

func (p *pair) read(n int) {
	p.t.Helper()
	var got, want []byte
	p.same("Read", func() (e api.Errno) { got, e = p.v.Read(n); return e }, func() (e api.Errno) { want, e = p.m.Read(n); return e })
	if !bytes.Equal(got, want) {
		p.t.Fatalf("sector %d: other bytes", n)
	}
}

func (p *pair) write(n int, b []byte) {
	p.t.Helper()
	p.same("Write", func() api.Errno { return p.v.Write(n, b) }, func() api.Errno { return p.m.Write(n, b) })
}

func (p *pair) slotAdd(at int, password []byte) {
	p.t.Helper()
	salt := [16]byte(p.source.Bytes(16))
	p.same("SlotAdd", func() api.Errno { return p.v.SlotAdd(at, password, salt) }, func() api.Errno { return p.m.SlotAdd(at, password) })
}

func (p *pair) slotRevoke(at int) {
	p.t.Helper()
	p.same("SlotRevoke", func() api.Errno { return p.v.SlotRevoke(at) }, func() api.Errno { return p.m.SlotRevoke(at) })
}

func (p *pair) rekeyStart() {
	p.t.Helper()
	keys := [64]byte(p.source.Bytes(64))
	p.same("RekeyStart", func() api.Errno { return p.v.RekeyStart(keys) }, p.m.RekeyStart)
}

func (p *pair) rekeyStep() (done bool) {
	p.t.Helper()
	var want bool
	p.same("RekeyStep", func() (e api.Errno) { done, e = p.v.RekeyStep(); return e }, func() (e api.Errno) { want, e = p.m.RekeyStep(); return e })
	if done != want {
		p.t.Fatalf("RekeyStep: %v, and the model's is %v", done, want)
	}
	return done
}

func (p *pair) info() {
	p.t.Helper()
	var got, want api.Info
	p.same("Info", func() (e api.Errno) { got, e = p.v.Info(); return e }, func() (e api.Errno) { want, e = p.m.Info(); return e })
	if !reflect.DeepEqual(got, want) {
		p.t.Fatalf("Info: %+v, and the model's is %+v", got, want)
	}
}

func (p *pair) flush() { p.t.Helper(); p.same("Flush", p.v.Flush, p.m.Flush) }
func (p *pair) close() { p.t.Helper(); p.same("Close", p.v.Close, p.m.Close) }

// all looks at all that can be told, beyond the ends too.
func (p *pair) all() {
	p.t.Helper()
	p.info()
	for n := -1; n <= p.h.Sectors; n++ {
		p.read(n)
	}
}

// number is one below a limit, or one beside it, now and then one far away.
func (p *pair) number(limit int) int {
	if p.source.Below(30) == 0 {
		return wild[p.source.Below(len(wild))]
	}
	return p.source.Below(limit+2) - 1
}

// password is one of a few, at the edges of what may be too.
func (p *pair) password() []byte {
	list := []string{"", "one", "two", "three", longest, longest + "x"}
	return []byte(list[p.source.Below(len(list))])
}

// anyCall is one of all, with right arguments or wrong ones.
func (p *pair) anyCall() {
	p.t.Helper()
	switch p.source.Below(26) {
	case 0, 1, 2, 3, 4:
		p.write(p.number(p.h.Sectors), p.source.Bytes(512))
	case 5, 6:
		p.write(p.number(p.h.Sectors), p.source.Bytes(510+p.source.Below(5)))
	case 7, 8:
		p.read(p.number(p.h.Sectors))
	case 9, 10:
		p.flush()
	case 11, 12, 13:
		p.slotAdd(p.number(p.h.Slots), p.password())
	case 14, 15:
		p.slotRevoke(p.number(p.h.Slots))
	case 16:
		p.rekeyStart()
	case 17, 18, 19, 20:
		p.rekeyStep()
	case 21, 22:
		p.info()
	case 23:
		p.close()
	default:
		p.open(p.password())
	}
}

// P25.4, P1: any calls, with right arguments and wrong ones: a volume answers each as its model, and what is refused changes nothing.
func TestVolumeAsItsModel(t *testing.T) {
	rekeys := 0
	for run := range 60 {
		source := sample.Source(9000 + run)
		segment := 1 + source.Below(8)
		h := headOf(1+source.Below(20), 1+source.Below(8), segment, 16+segment+source.Below(30))
		p := newPair(t, h, "one", &source)
		p.all() // it is closed
		p.open([]byte("one"))
		for range 150 {
			p.anyCall()
		}
		p.all()
		for _, password := range []string{"", "one", "two", "three", longest} {
			p.open([]byte(password))
		}
		p.all()
		rekeys += p.m.epoch - 1
	}
	if rekeys < 60 {
		t.Errorf("%d rekeys", rekeys)
	}
}

// P25.4, P1: all ways to make four calls one behind the other, from a volume that is just opened, and from one in a rekey.
func TestVolumeInEachOrder(t *testing.T) {
	h := headOf(2, 2, 1, 16)
	calls := []func(p *pair){
		func(p *pair) { p.write(0, bytes.Repeat([]byte("a"), 512)) },
		func(p *pair) { p.write(1, bytes.Repeat([]byte("b"), 512)) },
		func(p *pair) { p.slotAdd(1, []byte("two")) },
		func(p *pair) { p.slotRevoke(0) },
		(*pair).rekeyStart,
		func(p *pair) { p.rekeyStep() },
		func(p *pair) { p.close(); p.open([]byte("two")) },
	}
	aheads := [][]func(p *pair){
		{func(p *pair) { p.open([]byte("one")) }},
		{func(p *pair) { p.open([]byte("one")) }, (*pair).rekeyStart, func(p *pair) { p.write(1, bytes.Repeat([]byte("c"), 512)); p.rekeyStep() }},
	}
	const depth = 4
	orders := 1
	for range depth {
		orders *= len(calls)
	}
	for _, ahead := range aheads {
		for order := range orders {
			source := sample.Source(order)
			p := newPair(t, h, "one", &source)
			for _, call := range ahead {
				call(p)
			}
			for range depth {
				calls[order%len(calls)](p)
				order /= len(calls)
			}
			p.all()
		}
	}
}

// P25.4, P1: a great volume with all its slots, written all over, through two rekeys, closed and opened in each of them.
func TestGreatVolumeAsItsModel(t *testing.T) {
	source := sample.Source(77)
	h := headOf(1024, 8, 16, 64)
	p := newPair(t, h, "one", &source)
	p.open([]byte("one"))
	for n := range 1024 {
		if n%5 != 2 {
			p.write(n, source.Bytes(512))
		}
	}
	for at := range 8 {
		p.slotAdd(at, []byte{byte(at)})
	}
	for range 2 {
		p.rekeyStart()
		steps := 0
		for done := false; !done; steps++ {
			p.write(source.Below(1024), source.Bytes(512))
			if steps%20 == 7 {
				p.close()
				p.open([]byte{byte(1 + source.Below(7))})
			}
			done = p.rekeyStep()
		}
		if steps != 64 {
			t.Errorf("%d steps", steps)
		}
	}
	p.slotRevoke(0)
	p.slotRevoke(4)
	p.all()
	if w := p.m.Written(); len(w) < 820 || !slices.IsSorted(w) {
		t.Errorf("%d sectors were written", len(w))
	}
}
