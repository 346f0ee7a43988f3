package volume

import (
	"bytes"
	"reflect"
	"testing"

	"casket/api"
	"casket/cache"
	"casket/disk"
	"casket/head"
	"casket/keyring"
	"casket/merkle"
	"casket/plan"
	"casket/rekey"
	"casket/sample"
	"casket/seal"
	"casket/sector"
	"casket/slot"
	"casket/wrap"
)

// headOf is a header of so many sectors, of which a step of a rekey takes some.
func headOf(sectors, slots, segment, journal int) api.Head {
	return api.Head{Generation: 1, Sectors: sectors, Slots: slots, Journal: journal, Segment: segment, Params: api.Params{Time: 1, Memory: 8, Lanes: 1}, Name: [16]byte([]byte("sixteen letters."))}
}

// freshOf is what a caller brings for a volume's beginning.
func freshOf(number int) api.Fresh {
	source := sample.Source(3000 + number)
	return api.Fresh{Master: [32]byte(source.Bytes(32)), Salt: saltOf(number), Keys: keysOf(number)}
}

func saltOf(number int) [16]byte {
	source := sample.Source(4000 + number)
	return [16]byte(source.Bytes(16))
}

// keysOf is what an epoch's keys are made of.
func keysOf(number int) [64]byte {
	source := sample.Source(5000 + number)
	return [64]byte(source.Bytes(64))
}

// layoutOf is that of a header that may be.
func layoutOf(t *testing.T, h api.Head) api.Layout {
	t.Helper()
	l, e := head.Layout(h)
	if e != api.OK {
		t.Fatal("Layout", e)
	}
	return l
}

// formatted is a disk that was made a volume.
func formatted(t *testing.T, h api.Head, password string) *disk.Disk {
	t.Helper()
	d, e := disk.New(layoutOf(t, h).Blocks)
	if e != api.OK {
		t.Fatal("New", e)
	}
	if e := Format(d, h, []byte(password), freshOf(1)); e != api.OK {
		t.Fatal("Format", e)
	}
	return d
}

// opened is the volume of a disk.
func opened(t *testing.T, d *disk.Disk, password string) *Volume {
	t.Helper()
	v, e := Open(d, []byte(password))
	if e != api.OK || v == nil {
		t.Fatalf("Open(%q): %d", password, e)
	}
	return v
}

// opensNot asks that a passphrase does not open a disk, which is not changed.
func opensNot(t *testing.T, what string, d *disk.Disk, password string, want api.Errno) {
	t.Helper()
	before := d.Fork()
	if v, e := Open(d, []byte(password)); v != nil || e != want {
		t.Errorf("%s: Open(%q): %d, not %d", what, password, e, want)
	}
	if !sample.SameDisks(d, before) {
		t.Errorf("%s: Open(%q) changed the disk", what, password)
	}
}

// op is a write of a block, or a flush.
type op struct {
	block int
	bytes []byte
}

const flushing = -1

// wordsOfFormat are what Format should do, in order, as the chapter says.
func wordsOfFormat(t *testing.T, h api.Head, password string, f api.Fresh) []op {
	t.Helper()
	zeros := make([]byte, 512)
	l := layoutOf(t, h)
	list := []op{{0, zeros}, {1, zeros}, {flushing, nil}}
	s, _ := wrap.Wrap(h, f.Master, []byte(password), f.Salt)
	b, e := slot.EncodeSlot(s)
	if e != api.OK {
		t.Fatal("EncodeSlot", e)
	}
	list = append(list, op{2, b})
	for n := 1; n < h.Slots; n++ {
		list = append(list, op{2 + n, zeros})
	}
	keys, e := keyring.Keys(h, f.Master, []api.EpochKeys{{Epoch: 1, Data: [32]byte(f.Keys[:32]), Tag: [32]byte(f.Keys[32:])}})
	if e != api.OK {
		t.Fatal("Keys", e)
	}
	list = append(list, op{l.Keys, keys.Bytes})
	levels, root := merkle.Fresh(l)
	b, e = seal.RootBlock(wrap.Root(f.Master), h, api.Root{Tree: root})
	if e != api.OK {
		t.Fatal("RootBlock", e)
	}
	list = append(list, op{l.Root, b})
	n := l.Tree
	for _, level := range levels {
		for _, node := range level {
			list = append(list, op{n, node})
			n++
		}
	}
	for n := l.Tags; n < l.Data; n++ {
		list = append(list, op{n, zeros})
	}
	mark := []byte("MARK\x01\x00\x00\x00\x00\x00\x00\x00")
	list = append(list, op{l.Journal, markBlock(mark)}, op{flushing, nil})
	b, e = head.Encode(h)
	if e != api.OK {
		t.Fatal("Encode", e)
	}
	return append(list, op{0, b}, op{1, b}, op{flushing, nil})
}

// worded is a volume as the chapter words it, by the layers below alone, on a disk of its own.
type worded struct {
	d      *disk.Disk
	h      api.Head
	l      api.Layout
	stage  *merkle.Stage
	s      *sector.Store
	master [32]byte
	slot   int
	failed bool
	closed bool
}

// openWords is a volume on a disk that is one.
func openWords(t *testing.T, d *disk.Disk, h api.Head, password string) *worded {
	t.Helper()
	w := &worded{d: d, h: h, l: layoutOf(t, h)}
	c, e := cache.Open(d, w.l.Journal, h.Journal)
	if e != api.OK {
		t.Fatal("cache.Open", e)
	}
	w.stage = merkle.NewStage(c)
	w.master, w.slot, e = keyring.Find(w.stage, h, []byte(password))
	if e != api.OK {
		t.Fatal("Find", e)
	}
	ring, e := keyring.Epochs(w.stage, h, w.master)
	if e != api.OK {
		t.Fatal("Epochs", e)
	}
	w.s, e = sector.New(c, h, wrap.Root(w.master), ring)
	if e != api.OK {
		t.Fatal("sector.New", e)
	}
	return w
}

// call is one of a volume that may be closed, or have failed.
func (w *worded) call(does func() api.Errno) api.Errno {
	if w.closed {
		return api.ErrClosed
	}
	if w.failed {
		return api.ErrIO
	}
	e := does()
	if e == api.ErrIO {
		w.failed = true
	}
	return e
}

func (w *worded) read(n int) (b []byte, e api.Errno) {
	e = w.call(func() (e api.Errno) { b, e = w.s.Read(n); return e })
	return b, e
}

func (w *worded) write(n int, b []byte) api.Errno {
	return w.call(func() api.Errno { return w.s.Write(n, b) })
}

func (w *worded) flush() api.Errno {
	return w.call(func() api.Errno { return w.s.Flush() })
}

func (w *worded) slotAdd(at int, password []byte, salt [16]byte) api.Errno {
	return w.call(func() api.Errno {
		if len(password) > 512 {
			return api.ErrArg
		}
		if w.s.Root().Rekeying {
			return api.ErrBusy
		}
		x, e := keyring.Add(w.stage, w.h, w.master, at, password, salt)
		if e != api.OK {
			return e
		}
		if e := w.s.Change(false, w.s.Ring(), []api.Redo{x}); e != api.OK {
			return e
		}
		return w.s.Flush()
	})
}

func (w *worded) slotRevoke(at int) api.Errno {
	return w.call(func() api.Errno {
		if w.s.Root().Rekeying {
			return api.ErrBusy
		}
		x, e := keyring.Revoke(w.stage, w.h, at)
		if e != api.OK {
			return e
		}
		if e := w.s.Change(false, w.s.Ring(), []api.Redo{x}); e != api.OK {
			return e
		}
		return w.s.Clean()
	})
}

func (w *worded) rekeyStart(fresh [64]byte) api.Errno {
	return w.call(func() api.Errno { return rekey.Start(w.s, w.h, w.master, fresh) })
}

func (w *worded) rekeyStep() (done bool, e api.Errno) {
	e = w.call(func() (e api.Errno) { done, e = rekey.Step(w.s, w.h, w.master); return e })
	return done, e
}

func (w *worded) info() (i api.Info, e api.Errno) {
	e = w.call(func() api.Errno {
		looks, e := keyring.Looks(w.stage, w.h)
		if e != api.OK {
			return e
		}
		i = api.Info{Head: w.h, Slot: w.slot, Counter: w.s.Root().Counter}
		for _, x := range looks {
			i.Slots = append(i.Slots, !x.Right || x.Slot.Active)
		}
		for _, k := range w.s.Ring() {
			i.Epoch = k.Epoch
		}
		i.Left, e = plan.Steps(w.h, w.s.Root())
		return e
	})
	return i, e
}

func (w *worded) close() api.Errno {
	if w.closed {
		return api.ErrClosed
	}
	w.closed = true
	return w.s.Flush()
}

// pair is a volume, and one as the chapter words it, on a twin of its disk: the disks must be the same in all that can be told of them.
type pair struct {
	t *testing.T
	h api.Head
	d *disk.Disk
	v *Volume
	w *worded
}

// newPair is of a disk that is a volume.
func newPair(t *testing.T, d *disk.Disk, h api.Head, password string) *pair {
	t.Helper()
	return &pair{t: t, h: h, d: d, v: opened(t, d, password), w: openWords(t, d.Fork(), h, password)}
}

// reopen opens both anew.
func (p *pair) reopen(password string) {
	p.t.Helper()
	p.v, p.w = opened(p.t, p.d, password), openWords(p.t, p.w.d, p.h, password)
	p.same("Open", api.OK, api.OK)
}

// same asks that a call was answered as worded, and did that to the disk.
func (p *pair) same(what string, got, want api.Errno) {
	p.t.Helper()
	if got != want {
		p.t.Fatalf("%s: %d, not %d", what, got, want)
	}
	if !sample.SameDisks(p.d, p.w.d) {
		p.t.Fatalf("%s: another disk", what)
	}
}

// stop lets the power of both disks go.
func (p *pair) stop(n int) {
	p.d.Stop(n)
	p.w.d.Stop(n)
}

// crash crashes both disks.
func (p *pair) crash(keep []api.Kept) {
	p.t.Helper()
	if e, f := p.d.Crash(keep), p.w.d.Crash(keep); e != api.OK || f != api.OK {
		p.t.Fatal("Crash", e, f)
	}
}

// tamper writes a block on both disks, as somebody else does.
func (p *pair) tamper(n int, b []byte) {
	p.d.Tamper(n, b)
	p.w.d.Tamper(n, b)
}

func (p *pair) read(n int) api.Errno {
	p.t.Helper()
	b, e := p.v.Read(n)
	want, f := p.w.read(n)
	p.same("Read", e, f)
	if !bytes.Equal(b, want) {
		p.t.Fatalf("Read(%d): other bytes", n)
	}
	return e
}

func (p *pair) write(n int, b []byte) api.Errno {
	p.t.Helper()
	e := p.v.Write(n, b)
	p.same("Write", e, p.w.write(n, b))
	return e
}

func (p *pair) flush() api.Errno {
	p.t.Helper()
	e := p.v.Flush()
	p.same("Flush", e, p.w.flush())
	return e
}

func (p *pair) slotAdd(at int, password string, salt [16]byte) api.Errno {
	p.t.Helper()
	e := p.v.SlotAdd(at, []byte(password), salt)
	p.same("SlotAdd", e, p.w.slotAdd(at, []byte(password), salt))
	return e
}

func (p *pair) slotRevoke(at int) api.Errno {
	p.t.Helper()
	e := p.v.SlotRevoke(at)
	p.same("SlotRevoke", e, p.w.slotRevoke(at))
	return e
}

func (p *pair) rekeyStart(fresh [64]byte) api.Errno {
	p.t.Helper()
	e := p.v.RekeyStart(fresh)
	p.same("RekeyStart", e, p.w.rekeyStart(fresh))
	return e
}

func (p *pair) rekeyStep() (bool, api.Errno) {
	p.t.Helper()
	done, e := p.v.RekeyStep()
	want, f := p.w.rekeyStep()
	p.same("RekeyStep", e, f)
	if done != want {
		p.t.Fatalf("RekeyStep: %v, %d", done, e)
	}
	return done, e
}

func (p *pair) info() (api.Info, api.Errno) {
	p.t.Helper()
	i, e := p.v.Info()
	want, f := p.w.info()
	p.same("Info", e, f)
	if !sameInfo(i, want) {
		p.t.Fatalf("Info: %+v, not %+v", i, want)
	}
	return i, e
}

func (p *pair) close() api.Errno {
	p.t.Helper()
	e := p.v.Close()
	p.same("Close", e, p.w.close())
	return e
}

// all makes each call that changes nothing where it is not refused.
func (p *pair) all() {
	p.t.Helper()
	for n := -1; n <= p.h.Sectors; n++ {
		p.read(n)
	}
	p.info()
}

// anyCall is one of all, with right arguments or wrong ones.
func (p *pair) anyCall(source *sample.Source) {
	p.t.Helper()
	switch at := source.Below(p.h.Slots+2) - 1; source.Below(20) {
	case 0, 1, 2, 3, 4:
		p.write(source.Below(p.h.Sectors+2)-1, source.Bytes(512))
	case 5:
		p.write(source.Below(p.h.Sectors), source.Bytes(source.Below(1024)))
	case 6, 7, 8:
		p.read(source.Below(p.h.Sectors+2) - 1)
	case 9, 10:
		p.flush()
	case 11:
		p.slotAdd(at, "one", saltOf(source.Below(9)))
	case 12:
		p.slotAdd(at, string(source.Bytes(source.Below(520))), saltOf(source.Below(9)))
	case 13:
		p.slotRevoke(at)
	case 14:
		p.rekeyStart(keysOf(source.Below(99)))
	case 15, 16, 17, 18:
		p.rekeyStep()
	case 19:
		p.info()
	}
}

func sameInfo(a, b api.Info) bool {
	if len(a.Slots) == 0 && len(b.Slots) == 0 {
		a.Slots, b.Slots = nil, nil
	}
	return reflect.DeepEqual(a, b)
}
