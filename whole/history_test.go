// Package whole has tests of what the whole promises: volumes, held against models and looked over by reports, through crashes, rekeys, and blocks that others rewrite.
package whole

import (
	"bytes"
	"reflect"
	"testing"

	"casket/api"
	"casket/audit"
	"casket/disk"
	"casket/model"
	"casket/sample"
	"casket/volume"
)

// passwords are all that are ever in a slot.
var passwords = []string{"one", "two", "three", "four"}

// headOf is a header of so many sectors, of which a step of a rekey takes some.
func headOf(sectors, slots, segment, journal int) api.Head {
	return api.Head{Generation: 1, Sectors: sectors, Slots: slots, Journal: journal, Segment: segment, Params: api.Params{Time: 1, Memory: 8, Lanes: 1}, Name: [16]byte([]byte("sixteen letters."))}
}

// bytesOf are bytes that hang on a number.
func bytesOf(number, count int) []byte {
	source := sample.Source(6000 + number)
	return source.Bytes(count)
}

func saltOf(number int) [16]byte { return [16]byte(bytesOf(1000+number, 16)) }
func keysOf(number int) [64]byte { return [64]byte(bytesOf(2000+number, 64)) }

// formatted is a disk that was made a volume, with the first keys of a number.
func formatted(t *testing.T, h api.Head, number int) *disk.Disk {
	t.Helper()
	blocks, _, e := audit.Sizes(h)
	if e != api.OK {
		t.Fatal("Sizes", e)
	}
	d, _ := disk.New(blocks)
	f := api.Fresh{Master: [32]byte(bytesOf(1, 32)), Salt: saltOf(0), Keys: keysOf(number)}
	if e := volume.Format(d, h, []byte(passwords[0]), f); e != api.OK {
		t.Fatal("Format", e)
	}
	return d
}

// opened is the volume of a disk.
func opened(t *testing.T, d *disk.Disk, password string) *volume.Volume {
	t.Helper()
	v, e := volume.Open(d, []byte(password))
	if e != api.OK {
		t.Fatalf("Open(%q): %d", password, e)
	}
	return v
}

// history is what was done to a volume since it was opened.
type history struct {
	t       *testing.T
	h       api.Head
	d       *disk.Disk
	v       *volume.Volume
	moments []*model.Model // at first, and behind each call, one that was cut off too
	sure    int            // the last one that is sure
	cut     bool           // a call was cut off
	// of rekeys
	steps    int // those that were answered
	crashes  int
	frontier int // behind the last crash
}

func newHistory(t *testing.T, h api.Head) *history {
	t.Helper()
	m, e := model.New(h, []byte(passwords[0]))
	if e != api.OK || m.Open([]byte(passwords[0])) != api.OK {
		t.Fatal("New", e)
	}
	d := formatted(t, h, 1)
	return &history{t: t, h: h, d: d, v: opened(t, d, passwords[0]), moments: []*model.Model{m}}
}

// last is what the volume should be.
func (h *history) last() *model.Model {
	return h.moments[len(h.moments)-1]
}

func (h *history) info() api.Info {
	i, _ := h.last().Info()
	return i
}

// do calls something of the volume, and of its model. If it was cut off, nothing more is done.
func (h *history) do(call, same func() api.Errno) {
	h.t.Helper()
	if h.cut {
		return
	}
	e := call()
	if h.d.Off() && e == api.ErrIO {
		h.cut = true
	}
	if want := same(); !h.cut && e != want {
		h.t.Fatalf("%d, and the model's is %d", e, want)
	}
}

// next is a new moment, to be changed.
func (h *history) next() *model.Model {
	h.moments = append(h.moments, h.last().Fork())
	return h.last()
}

// settle makes the last moment sure, if nothing was cut off.
func (h *history) settle() {
	if !h.cut {
		h.sure = len(h.moments) - 1
	}
}

func (h *history) write(n int, b []byte) {
	h.t.Helper()
	h.do(func() api.Errno { return h.v.Write(n, b) }, func() api.Errno { return h.next().Write(n, b) })
}

func (h *history) flush() {
	h.t.Helper()
	h.do(h.v.Flush, h.last().Flush)
	h.settle()
}

func (h *history) slotAdd(at int) {
	h.t.Helper()
	password := []byte(passwords[at])
	h.do(func() api.Errno { return h.v.SlotAdd(at, password, saltOf(at)) }, func() api.Errno { return h.next().SlotAdd(at, password) })
	h.settle()
}

func (h *history) slotRevoke(at int) {
	h.t.Helper()
	h.do(func() api.Errno { return h.v.SlotRevoke(at) }, func() api.Errno { return h.next().SlotRevoke(at) })
	h.settle()
}

// rekey begins one, or goes on with it.
func (h *history) rekey() {
	h.t.Helper()
	if h.info().Left == 0 {
		h.do(func() api.Errno { return h.v.RekeyStart(keysOf(h.info().Epoch + 1)) }, func() api.Errno { return h.next().RekeyStart() })
		return
	}
	var done, want bool
	h.do(func() (e api.Errno) { done, e = h.v.RekeyStep(); return e }, func() (e api.Errno) { want, e = h.next().RekeyStep(); return e })
	if h.cut {
		return
	}
	if done != want {
		h.t.Fatalf("RekeyStep: %v", done)
	}
	h.steps++
	if done {
		h.settle()
	}
}

// slot adds one, or revokes one, where that may be.
func (h *history) slot(source *sample.Source) {
	h.t.Helper()
	i := h.info()
	taken := 0
	for _, is := range i.Slots {
		if is {
			taken++
		}
	}
	switch at := source.Below(h.h.Slots); {
	case i.Left > 0:
		h.rekey()
	case !i.Slots[at]:
		h.slotAdd(at)
	case taken > 1:
		h.slotRevoke(at)
	}
}

// anyCall is one that the volume does not refuse by itself.
func (h *history) anyCall(source *sample.Source) {
	h.t.Helper()
	switch source.Below(12) {
	case 0:
		h.flush()
	case 1, 2:
		h.slot(source)
	case 3, 4, 5:
		h.rekey()
	default:
		h.write(source.Below(h.h.Sectors), source.Bytes(512))
	}
}

// crash is one: the volume opens, and is as at one moment since it was sure.
func (h *history) crash(keep []api.Kept) {
	h.t.Helper()
	h.crashes++
	if e := h.d.Crash(keep); e != api.OK {
		h.t.Fatal("Crash", e)
	}
	m, between := h.found()
	h.is(m, between)
	h.d.Crash(nil) // another one changes nothing
	h.is(m, between)
	if between {
		h.end()
	}
	h.moments, h.sure, h.cut = []*model.Model{m}, 0, false
}

// found is the moment that a disk has, and whether it is the one between a rekey's last sectors and its end, of which the model knows nothing.
func (h *history) found() (m *model.Model, between bool) {
	h.t.Helper()
	for _, password := range passwords {
		v, e := volume.Open(h.d, []byte(password))
		if e == api.ErrNoKey {
			continue
		}
		if e != api.OK {
			h.t.Fatalf("Open: %d", e)
		}
		i, _ := v.Info()
		for _, m := range h.moments[h.sure:] {
			if want, _ := m.Info(); want.Counter == i.Counter {
				return m, false
			}
		}
		if want := h.info(); h.cut && i.Left == 1 && want.Left == 0 && i.Epoch == want.Epoch && i.Counter+1 == want.Counter {
			return h.last(), true
		}
		h.t.Fatalf("%+v: no moment since the %d. of %d left that", i, h.sure, len(h.moments))
	}
	h.t.Fatal("no passphrase opens it")
	return nil, false
}

// is asks that the disk is as at a moment, by each passphrase, and that a report tells the same.
func (h *history) is(m *model.Model, between bool) {
	h.t.Helper()
	for _, password := range passwords {
		v, e := volume.Open(h.d, []byte(password))
		if want := m.Open([]byte(password)); e != want {
			h.t.Fatalf("Open(%q): %d, not %d", password, e, want)
		}
		if e != api.OK {
			continue
		}
		h.v = v
		i, e := v.Info()
		want, _ := m.Info()
		if between {
			want.Left, want.Counter = 1, want.Counter-1
		}
		if e != api.OK || !reflect.DeepEqual(i, want) {
			h.t.Fatalf("%+v, %d, not %+v", i, e, want)
		}
		h.reads(m)
		h.report([]byte(password), m, i)
	}
}

// reads asks that all sectors read as at a moment.
func (h *history) reads(m *model.Model) {
	h.t.Helper()
	for n := range h.h.Sectors {
		b, e := h.v.Read(n)
		if want, _ := m.Read(n); e != api.OK || !bytes.Equal(b, want) {
			h.t.Fatalf("sector %d: %d, or other bytes", n, e)
		}
	}
}

// report asks for one that fits what the volume tells.
func (h *history) report(password []byte, m *model.Model, i api.Info) {
	h.t.Helper()
	r, e := audit.Report(h.d, password)
	if e != api.OK || len(r.Bad) != 0 || r.Head != i.Head || r.Root.Counter != i.Counter || r.Root.Rekeying != (i.Left > 0) || !reflect.DeepEqual(r.Slots, i.Slots) {
		h.t.Fatalf("Report: %+v, %d, and the volume tells %+v", r, e, i)
	}
	epochs := make([]int, h.h.Sectors)
	for _, n := range m.Written() {
		epochs[n] = i.Epoch
		if r.Root.Rekeying && n >= r.Root.Frontier {
			epochs[n]--
		}
	}
	if !reflect.DeepEqual(r.Epochs, epochs) {
		h.t.Fatalf("Report: epochs %v, not %v", r.Epochs, epochs)
	}
	// P5: the frontier never falls, from crash to crash.
	place := i.Epoch * 10000
	if r.Root.Rekeying {
		place = place - 5000 + r.Root.Frontier
	}
	if place < h.frontier {
		h.t.Fatalf("the frontier has fallen: %+v", r.Root)
	}
	h.frontier = place
}

// end is the step behind a crash that came just ahead of a rekey's end.
func (h *history) end() {
	h.t.Helper()
	if done, e := h.v.RekeyStep(); !done || e != api.OK {
		h.t.Fatalf("the last step: %v, %d", done, e)
	}
	h.steps++
	h.is(h.last(), false)
}
