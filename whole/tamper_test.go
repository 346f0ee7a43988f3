package whole

import (
	"bytes"
	"slices"
	"sync"
	"testing"

	"casket/api"
	"casket/audit"
	"casket/disk"
	"casket/head"
	"casket/model"
	"casket/sample"
	"casket/volume"
)

// P6: the same calls make the same disk, also where many are made at a time.
func TestOneFunction(t *testing.T) {
	for run := range 6 {
		head := headOf(4+run, 4, 2, 20+9*run)
		disks := make([]*disk.Disk, 6)
		var all sync.WaitGroup
		for i := range disks {
			all.Go(func() {
				source := sample.Source(600 + run)
				h := newHistory(t, head)
				disks[i] = h.d
				for range 60 {
					h.anyCall(&source)
				}
			})
		}
		all.Wait()
		for _, d := range disks[1:] {
			if list := audit.Differ(d, disks[0]); len(list) != 0 || !sample.SameDisks(d, disks[0]) {
				t.Errorf("%v are otherwise, or what is unsure is", list)
			}
		}
	}
}

// images are disks of one volume, as it went on, and what it was each time.
type images struct {
	head    api.Head
	layout  api.Layout
	disks   []*disk.Disk
	moments []*model.Model
}

// last is the closed volume that somebody gets.
func (x *images) last() *disk.Disk { return x.disks[len(x.disks)-1] }

func newImages(t *testing.T, run int) *images {
	t.Helper()
	source := sample.Source(700 + run)
	h := newHistory(t, headOf(10+source.Below(20), 4, 1+source.Below(6), 30+10*source.Below(4)))
	x := &images{head: h.h}
	x.layout, _ = head.Layout(h.h)
	for h.info().Epoch < 3 || len(x.disks) < 12 {
		for range 1 + source.Below(12) {
			h.anyCall(&source)
		}
		h.flush()
		x.disks = append(x.disks, h.d.Fork())
	}
	for h.info().Left > 0 {
		h.rekey()
	}
	if !h.info().Slots[0] {
		h.slotAdd(0)
	}
	if e := h.v.Close(); e != api.OK {
		t.Fatal("Close", e)
	}
	x.disks = append(x.disks, h.d)
	x.moments = h.moments
	return x
}

// at is what the volume was when its root was changed so often. A rekey's last step changes it twice, and what is read only once.
func (x *images) at(counter uint64) *model.Model {
	place := slices.IndexFunc(x.moments, func(m *model.Model) bool {
		i, _ := m.Info()
		return i.Counter >= counter
	})
	if place < 0 {
		return nil
	}
	return x.moments[place]
}

// look asks that a rewritten disk is refused, by Open or by each read, or reads what was written when its root was made, and that a report tells the same. It tells which moment that is, and how many sectors read.
func (x *images) look(t *testing.T, d *disk.Disk) (m *model.Model, right int) {
	t.Helper()
	for _, password := range passwords {
		v, e := volume.Open(d, []byte(password))
		r, f := audit.Report(d, []byte(password))
		if f != e {
			t.Fatalf("Report: %d, and Open: %d", f, e)
		}
		if e == api.ErrFormat || e == api.ErrNoKey || e == api.ErrIntegrity {
			continue
		}
		i, f := v.Info()
		if m = x.at(i.Counter); e != api.OK || f != api.OK || m == nil {
			t.Fatalf("Open: %d, Info: %+v, %d", e, i, f)
		}
		right = 0
		for n := range x.head.Sectors {
			b, e := v.Read(n)
			want, _ := m.Read(n)
			switch isBad := slices.Contains(r.Bad, n); {
			case e == api.OK && bytes.Equal(b, want) && !isBad:
				right++
			case e != api.ErrIntegrity || len(b) != 0 || !isBad:
				t.Fatalf("sector %d: %d, or other bytes, or a report tells otherwise: %v", n, e, isBad)
			}
		}
	}
	return m, right
}

// P6: somebody rewrites blocks of a closed volume, some few, or all, by those of elder disks, by those of other places, by turned bits.
func TestRewritten(t *testing.T) {
	refused, part, whole, elder := 0, 0, 0, 0
	for run := range 6 {
		source := sample.Source(800 + run)
		x := newImages(t, run)
		for i := range 120 {
			d := x.last().Fork()
			if i%5 == 0 { // most blocks are as they were once
				d = x.disks[source.Below(len(x.disks))].Fork()
			}
			for range source.Below(9) {
				n := source.Below(d.Len())
				b := d.Sure(n)
				switch source.Below(4) {
				case 0, 1:
					b = x.disks[source.Below(len(x.disks))].Sure(n)
				case 2:
					b = d.Sure(source.Below(d.Len()))
				case 3:
					b[source.Below(512)] ^= 1 << source.Below(8)
				}
				d.Tamper(n, b)
			}
			m, right := x.look(t, d)
			switch {
			case m == nil:
				refused++
			case m != x.moments[len(x.moments)-1]:
				elder++
			case right == x.head.Sectors:
				whole++
			default:
				part++
			}
		}
	}
	if refused < 20 || part < 50 || whole < 20 || elder < 20 {
		t.Errorf("refused %d, in part %d, whole %d, an elder one %d", refused, part, whole, elder)
	}
}

// P6: where neither the root's block nor the journal is rewritten, no elder moment comes back, whatever else is.
func TestNothingElderComesBack(t *testing.T) {
	seen := 0
	for run := range 6 {
		source := sample.Source(850 + run)
		x := newImages(t, run)
		for range 80 {
			d := x.last().Fork()
			from := x.disks[source.Below(len(x.disks))]
			for n := range d.Len() {
				isKept := n == x.layout.Root || n >= x.layout.Journal && n < x.layout.Tree
				if !isKept && source.Below(4) == 0 {
					d.Tamper(n, from.Sure(n))
				}
			}
			if m, right := x.look(t, d); m != nil && m != x.moments[len(x.moments)-1] {
				t.Fatal("an elder moment")
			} else if right > 0 {
				seen++
			}
		}
	}
	if seen < 50 {
		t.Errorf("%d disks read something", seen)
	}
}

// P6: a whole elder disk reads as it did then.
func TestElderDisks(t *testing.T) {
	x := newImages(t, 1)
	for i, d := range x.disks {
		if m, right := x.look(t, d); m == nil || right != x.head.Sectors {
			t.Errorf("disk %d: %d sectors read", i, right)
		}
	}
}
