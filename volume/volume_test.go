package volume

import (
	"bytes"
	"math"
	"slices"
	"strings"
	"testing"

	"casket/api"
	"casket/sample"
)

// wild are numbers that no sector has, and no slot.
var wild = []int{math.MinInt, math.MinInt32, -1 << 32, -1<<32 + 5, -8, -1, 1 << 16, 1<<31 - 1, 1 << 32, 1<<32 + 5, math.MaxInt}

// refusedBy asks that each call of a volume is refused with want; Close is not called.
func refusedBy(t *testing.T, what string, v *Volume, want api.Errno) {
	t.Helper()
	var got []api.Errno
	for _, n := range []int{0, 3, -1, math.MaxInt} {
		b, e := v.Read(n)
		if len(b) != 0 {
			t.Errorf("%s: Read: bytes beside %d", what, e)
		}
		got = append(got, e, v.Write(n, make([]byte, 512)), v.Write(n, nil))
		got = append(got, v.SlotAdd(n, []byte("three"), saltOf(3)), v.SlotAdd(n, make([]byte, 513), saltOf(3)), v.SlotRevoke(n))
	}
	done, e := v.RekeyStep()
	i, f := v.Info()
	if done || !sameInfo(i, api.Info{}) {
		t.Errorf("%s: RekeyStep: %v beside %d; Info: %+v beside %d", what, done, e, i, f)
	}
	got = append(got, e, f, v.Flush(), v.RekeyStart(keysOf(9)))
	if slices.ContainsFunc(got, func(e api.Errno) bool { return e != want }) {
		t.Errorf("%s: %d, not %d", what, got, want)
	}
}

// P24.4: no volume, one that no call made, one that was closed.
func TestClosed(t *testing.T) {
	d := formatted(t, headOf(9, 2, 2, 20), "one")
	closed := opened(t, d, "one")
	if e := closed.Close(); e != api.OK {
		t.Fatal("Close", e)
	}
	before := d.Fork()
	for what, v := range map[string]*Volume{"nil": nil, "no call made it": {}, "closed": closed} {
		refusedBy(t, what, v, api.ErrClosed)
		for range 2 {
			if e := v.Close(); e != api.ErrClosed {
				t.Errorf("%s: Close: %d", what, e)
			}
		}
		refusedBy(t, what, v, api.ErrClosed)
	}
	d.Stop(0)
	refusedBy(t, "closed, and off", closed, api.ErrClosed)
	d.Crash(nil)
	if !sample.SameDisks(d, before) {
		t.Error("a closed volume wrote something")
	}
	opened(t, d, "one")
}

// P24.3: Close makes all sure, and nothing of the keys is kept.
func TestClose(t *testing.T) {
	x := sample.Bytes(512)
	d := formatted(t, headOf(9, 2, 2, 20), "one")
	v := opened(t, d, "one")
	if e := v.Write(3, x); e != api.OK {
		t.Fatal("Write", e)
	}
	if len(d.Unsure()) == 0 {
		t.Fatal("all is sure ahead of it")
	}
	if e := v.Close(); e != api.OK || len(d.Unsure()) != 0 || *v != (Volume{}) {
		t.Errorf("Close: %d, unsure %v", e, d.Unsure())
	}
	d.Crash(nil)
	if b, e := opened(t, d, "one").Read(3); e != api.OK || !bytes.Equal(b, x) {
		t.Errorf("Read: %d, or other bytes", e)
	}
	// It is closed, whatever is refused.
	v = opened(t, d, "one")
	v.Write(4, x)
	d.Stop(0)
	if e := v.Close(); e != api.ErrIO {
		t.Errorf("Close, off: %d", e)
	}
	refusedBy(t, "closed", v, api.ErrClosed)
	if e := v.Close(); e != api.ErrClosed {
		t.Errorf("Close, twice: %d", e)
	}
}

// P24.3: some calls one behind the other, as worded, each on the disk as worded too.
func TestCallsAsWorded(t *testing.T) {
	source := sample.Source(3)
	h := headOf(12, 3, 5, 24)
	p := newPair(t, formatted(t, h, "one"), h, "one")
	want := func(got, want api.Errno) {
		t.Helper()
		if got != want {
			t.Errorf("%d, not %d", got, want)
		}
	}
	want(p.write(4, source.Bytes(512)), api.OK)
	want(p.write(12, source.Bytes(512)), api.ErrRange)
	want(p.write(11, nil), api.ErrSize)
	want(p.flush(), api.OK)
	want(p.slotAdd(1, "two", saltOf(2)), api.OK)
	want(p.slotAdd(1, "two", saltOf(2)), api.ErrTwice)
	want(p.slotAdd(3, "two", saltOf(2)), api.ErrRange)
	want(p.slotAdd(9, strings.Repeat("x", 513), saltOf(2)), api.ErrArg)
	want(p.slotRevoke(2), api.ErrNone)
	want(p.slotRevoke(-1), api.ErrRange)
	_, e := p.rekeyStep()
	want(e, api.ErrIdle)
	want(p.rekeyStart(keysOf(2)), api.OK)
	want(p.rekeyStart(keysOf(3)), api.ErrBusy)
	want(p.slotAdd(2, "three", saltOf(3)), api.ErrBusy)
	want(p.slotAdd(2, strings.Repeat("x", 513), saltOf(3)), api.ErrArg)
	want(p.slotRevoke(0), api.ErrBusy)
	for i := range 3 {
		p.all()
		done, e := p.rekeyStep()
		want(e, api.OK)
		if done != (i == 2) {
			t.Errorf("step %d: %v", i, done)
		}
		want(p.write(3*i, source.Bytes(512)), api.OK)
	}
	want(p.slotRevoke(0), api.OK)
	want(p.slotRevoke(1), api.ErrLast)
	p.all()
	p.reopen("two")
	p.all()
	want(p.close(), api.OK)
	want(p.close(), api.ErrClosed)
	p.all()
}

// P24.3, P24.4, R6: any calls, with a power that goes, and crashes: each is answered as worded, and the disk is as worded behind each.
func TestAnyCallsAsWorded(t *testing.T) {
	failed := 0
	for run := range 60 {
		source := sample.Source(100 + run)
		segment := 1 + source.Below(6)
		h := headOf(1+source.Below(20), 1+source.Below(4), segment, 16+segment+source.Below(12))
		p := newPair(t, formatted(t, h, "one"), h, "one")
		for range 8 {
			if source.Below(2) == 0 {
				p.stop(source.Below(120))
			}
			for range 12 {
				p.anyCall(&source)
			}
			if p.w.failed {
				failed++
			}
			if source.Below(3) == 0 {
				p.close()
				p.anyCall(&source)
			}
			keep := slices.Collect(source.Keeps(p.d.Unsure(), 20))
			p.crash(keep[source.Below(len(keep))])
			if source.Below(2) == 0 { // it is used on, though that is of no use
				p.anyCall(&source)
			}
			if source.Below(4) == 0 {
				p.close()
			}
			if v, e := Open(p.d.Fork(), []byte("one")); e != api.OK || v == nil {
				break // the passphrase's slot was revoked
			}
			p.reopen("one")
		}
	}
	if failed < 50 {
		t.Errorf("%d volumes failed", failed)
	}
}

// P24.4: each call that the disk refuses something of is ErrIO, and then all are but Close, also when the disk is on again, till the volume is opened anew.
func TestFailed(t *testing.T) {
	h := headOf(9, 3, 2, 20)
	base := formatted(t, h, "one")
	first := opened(t, base, "one")
	for _, e := range []api.Errno{
		first.Write(3, sample.Bytes(512)), first.SlotAdd(1, []byte("two"), saltOf(1)),
		first.SlotAdd(2, []byte("three"), saltOf(2)), first.SlotRevoke(2), // by that all blocks are home: reading asks the disk
		first.RekeyStart(keysOf(2)), first.Close(),
	} {
		if e != api.OK {
			t.Fatal(e)
		}
	}
	errno := func(_ any, e api.Errno) api.Errno { return e }
	calls := map[string]func(v *Volume) api.Errno{
		"Read":      func(v *Volume) api.Errno { b, e := v.Read(7); return errno(b, e) },
		"Write":     func(v *Volume) api.Errno { return v.Write(7, make([]byte, 512)) },
		"Flush":     func(v *Volume) api.Errno { return v.Flush() },
		"RekeyStep": func(v *Volume) api.Errno { done, e := v.RekeyStep(); return errno(done, e) },
		"Info":      func(v *Volume) api.Errno { i, e := v.Info(); return errno(i, e) },
	}
	look := func(name string, call func(v *Volume) api.Errno, rekey, closing bool) {
		d := base.Fork()
		v := opened(t, d, "one")
		if !rekey {
			for range 5 {
				v.RekeyStep()
			}
		}
		v.Close()
		v = opened(t, d, "one")
		d.Stop(0)
		if e := v.Write(9, nil); e != api.ErrRange { // the disk is not asked
			t.Errorf("%s: ahead of it: %d", name, e)
		}
		if e := call(v); e != api.ErrIO {
			t.Errorf("%s: %d", name, e)
		}
		refusedBy(t, name+", off", v, api.ErrIO)
		d.Crash(nil)
		before := d.Fork()
		refusedBy(t, name+", on again", v, api.ErrIO)
		if !sample.SameDisks(d, before) {
			t.Errorf("%s: the disk is another one", name)
		}
		if b, e := opened(t, d, "two").Read(3); e != api.OK || !bytes.Equal(b, sample.Bytes(512)) {
			t.Errorf("%s: opened anew: %d, or other bytes", name, e)
		}
		if e := v.Close(); closing != (e == api.OK) || !closing && e != api.ErrIO {
			t.Errorf("%s: Close: %d", name, e)
		}
		refusedBy(t, name+", closed", v, api.ErrClosed)
	}
	for name, call := range calls {
		// Where reading is refused, the store can still be flushed; behind a write or a flush that is, its cache is of no more use.
		look(name, call, true, name != "Flush")
	}
	look("SlotAdd", func(v *Volume) api.Errno { return v.SlotAdd(2, []byte("three"), saltOf(3)) }, false, true)
	look("SlotRevoke", func(v *Volume) api.Errno { return v.SlotRevoke(0) }, false, true)
	look("RekeyStart", func(v *Volume) api.Errno { return v.RekeyStart(keysOf(3)) }, false, false)
}

// P24.4: calls that are cut off in their middle, behind each of what they do.
func TestCutOff(t *testing.T) {
	h := headOf(9, 3, 4, 18)
	base := formatted(t, h, "one")
	first := opened(t, base, "one")
	for _, e := range []api.Errno{first.Write(3, sample.Bytes(512)), first.SlotAdd(1, []byte("two"), saltOf(1)), first.Close()} {
		if e != api.OK {
			t.Fatal(e)
		}
	}
	for name, calls := range map[string]func(p *pair) api.Errno{
		"Write":      func(p *pair) api.Errno { return p.write(7, sample.Bytes(512)) },
		"SlotAdd":    func(p *pair) api.Errno { return p.slotAdd(2, "three", saltOf(3)) },
		"SlotRevoke": func(p *pair) api.Errno { return p.slotRevoke(0) },
		"RekeyStart": func(p *pair) api.Errno { return p.rekeyStart(keysOf(2)) },
		"a rekey": func(p *pair) api.Errno {
			e := p.rekeyStart(keysOf(2))
			for done := false; e == api.OK && !done; {
				done, e = p.rekeyStep()
			}
			return e
		},
		"Close": func(p *pair) api.Errno { p.write(7, sample.Bytes(512)); return p.close() },
	} {
		for stop := 0; ; stop++ {
			p := newPair(t, base.Fork(), h, "two")
			p.stop(stop)
			e := calls(p)
			if e == api.OK {
				if stop < 5 {
					t.Errorf("%s: %d steps in all", name, stop)
				}
				break
			}
			if e != api.ErrIO {
				t.Errorf("%s, behind %d steps: %d", name, stop, e)
			}
			if name != "Close" {
				refusedBy(t, name, p.v, api.ErrIO)
			}
			p.close()
		}
	}
}

// P24.3: what a rekey's step answers is layer 23's: done, where cleaning alone was refused.
func TestRekeyStepIsDoneButNotCleaned(t *testing.T) {
	h := headOf(5, 1, 5, 16)
	base := formatted(t, h, "one")
	v := opened(t, base, "one")
	v.Write(2, sample.Bytes(512))
	if e := v.RekeyStart(keysOf(2)); e != api.OK || v.Close() != api.OK {
		t.Fatal("RekeyStart", e)
	}
	ended := 0
	for stop := 0; ; stop++ {
		d := base.Fork()
		v := opened(t, d, "one")
		d.Stop(stop)
		done, e := v.RekeyStep()
		if e == api.OK {
			break
		}
		if done {
			ended++
		}
		refusedBy(t, "cut off", v, api.ErrIO)
	}
	if ended < 15 {
		t.Errorf("it was done %d times, where cleaning was refused", ended)
	}
}

// P24.3: while a rekey is on, slots are as they are, whichever is asked for; a passphrase that is too long is told of ahead of that.
func TestSlotsWhileARekeyIsOn(t *testing.T) {
	h := headOf(9, 3, 2, 20)
	p := newPair(t, formatted(t, h, "one"), h, "one")
	p.slotAdd(1, "two", saltOf(1))
	p.rekeyStart(keysOf(2))
	for done := false; !done; done, _ = p.rekeyStep() {
		for _, at := range append([]int{0, 1, 2, 3}, wild...) {
			if e := p.slotAdd(at, "three", saltOf(3)); e != api.ErrBusy {
				t.Errorf("SlotAdd(%d): %d", at, e)
			}
			if e := p.slotAdd(at, strings.Repeat("x", 513), saltOf(3)); e != api.ErrArg {
				t.Errorf("SlotAdd(%d): %d", at, e)
			}
			if e := p.slotRevoke(at); e != api.ErrBusy {
				t.Errorf("SlotRevoke(%d): %d", at, e)
			}
		}
	}
	if p.slotAdd(2, "three", saltOf(3)) != api.OK || p.slotRevoke(0) != api.OK {
		t.Error("behind its end they may be changed")
	}
	p.reopen("three")
	p.all()
}

// P24.3: slots that there are not, that are taken, that nobody has, and the last one.
func TestSlotsThatMayNotBeChanged(t *testing.T) {
	h := headOf(9, 3, 2, 20)
	p := newPair(t, formatted(t, h, "one"), h, "one")
	for _, at := range append([]int{3, 4}, wild...) {
		for _, password := range []string{"", "three", strings.Repeat("x", 512)} {
			if e := p.slotAdd(at, password, saltOf(3)); e != api.ErrRange {
				t.Errorf("SlotAdd(%d): %d", at, e)
			}
		}
		if e := p.slotRevoke(at); e != api.ErrRange {
			t.Errorf("SlotRevoke(%d): %d", at, e)
		}
		if e := p.slotAdd(at, strings.Repeat("x", 513), saltOf(3)); e != api.ErrArg {
			t.Errorf("SlotAdd(%d): %d", at, e)
		}
	}
	for _, e := range []api.Errno{p.slotAdd(0, "two", saltOf(2)), p.slotAdd(0, "one", freshOf(1).Salt)} {
		if e != api.ErrTwice {
			t.Errorf("a taken slot: %d", e)
		}
	}
	if p.slotRevoke(1) != api.ErrNone || p.slotRevoke(0) != api.ErrLast {
		t.Error("a slot that nobody has, or the last one")
	}
	if i, _ := p.info(); i.Counter != 0 || !slices.Equal(i.Slots, []bool{true, false, false}) {
		t.Errorf("%+v", i)
	}
}

// P24.3: what somebody wrote over a slot is taken, till it is revoked, and does not count as one that opens.
func TestSlotsThatAreNone(t *testing.T) {
	h := headOf(9, 3, 2, 20)
	p := newPair(t, formatted(t, h, "one"), h, "one")
	p.tamper(2+1, sample.Bytes(512))
	if i, e := p.info(); e != api.OK || !slices.Equal(i.Slots, []bool{true, true, false}) {
		t.Errorf("%+v, %d", i, e)
	}
	if p.slotAdd(1, "two", saltOf(2)) != api.ErrTwice || p.slotRevoke(0) != api.ErrLast || p.slotRevoke(1) != api.OK || p.slotAdd(1, "two", saltOf(2)) != api.OK {
		t.Error("a slot that is none")
	}
	p.reopen("two")
}

// P24.7: behind a SlotRevoke its block is zeros, for sure, and the journal's are behind the mark.
func TestNothingIsLeftOfARevokedSlot(t *testing.T) {
	h := headOf(9, 3, 2, 40)
	l := layoutOf(t, h)
	p := newPair(t, formatted(t, h, "one"), h, "one")
	p.slotAdd(1, "two", saltOf(2))
	p.slotAdd(2, "three", saltOf(3))
	added := p.d.Fork()
	added.Flush()
	for at, next := range []string{"two", "three"} {
		for _, n := range []int{4, 5} {
			p.write(n, sample.Bytes(512))
		}
		if e := p.slotRevoke(at); e != api.OK {
			t.Fatal("SlotRevoke", e)
		}
		zeros := make([]byte, 512)
		if !bytes.Equal(p.d.Sure(2+at), zeros) || len(p.d.Unsure()) != 0 {
			t.Errorf("slot %d is left, or unsure", at)
		}
		for n := l.Journal + 1; n < l.Tree; n++ {
			if !bytes.Equal(p.d.Sure(n), zeros) {
				t.Errorf("slot %d: block %d of the journal is not zeros", at, n)
			}
		}
		p.reopen(next)
		p.all()
		if i, _ := p.info(); i.Slots[at] || i.Slot != at+1 {
			t.Errorf("slot %d: %+v", at, i)
		}
	}
	opensNot(t, "revoked", p.d, "one", api.ErrNoKey)
	opensNot(t, "revoked", p.d, "two", api.ErrNoKey)
}

// P3, P24.7: two volumes one of whose slots had another passphrase are the same disk, once it is revoked.
func TestNothingDependsOnARevokedSlot(t *testing.T) {
	h := headOf(9, 3, 2, 40)
	base := formatted(t, h, "one")
	one, other := newPair(t, base.Fork(), h, "one"), newPair(t, base.Fork(), h, "one")
	for _, p := range []*pair{one, other} {
		password, salt := "two", saltOf(2)
		if p == other {
			password, salt = "three", saltOf(3)
		}
		p.write(4, sample.Bytes(512))
		p.slotAdd(1, password, salt)
		p.write(5, sample.Bytes(512))
	}
	if sample.SameDisks(one.d, other.d) {
		t.Error("they are the same ahead of it")
	}
	if one.slotRevoke(1) != api.OK || other.slotRevoke(1) != api.OK || !sample.SameDisks(one.d, other.d) {
		t.Error("another disk, by the slot that was revoked alone")
	}
}

// P4: two volumes that had other keys at first are the same disk at a rekey's end.
func TestNothingDependsOnTheOldKeys(t *testing.T) {
	source := sample.Source(5)
	h := headOf(20, 2, 3, 40)
	bytesOf := map[int][]byte{}
	for n := range 20 {
		bytesOf[n] = source.Bytes(512)
	}
	fresh := freshOf(1)
	fresh.Keys = keysOf(77)
	one := newPair(t, formatted(t, h, "one"), h, "one")
	d := dirtyDisk(one.d.Len())
	for n := range d.Len() {
		d.Tamper(n, make([]byte, 512))
	}
	if e := Format(d, h, []byte("one"), fresh); e != api.OK {
		t.Fatal("Format", e)
	}
	other := newPair(t, d, h, "one")
	for _, p := range []*pair{one, other} {
		for _, n := range []int{0, 1, 2, 7, 8, 13, 19} {
			p.write(n, bytesOf[n])
		}
		p.rekeyStart(keysOf(2))
		p.rekeyStep()
		p.write(12, bytesOf[12])
		p.write(1, bytesOf[11])
	}
	for range 6 {
		if sample.SameDisks(one.d, other.d) {
			t.Error("they are the same ahead of the end")
		}
		one.rekeyStep()
		other.rekeyStep()
	}
	if !sample.SameDisks(one.d, other.d) {
		t.Error("another disk, by the old keys alone")
	}
	one.all()
}

// P6: the same calls make the same disk.
func TestOneFunction(t *testing.T) {
	h := headOf(9, 3, 2, 20)
	run := func() *pair {
		source := sample.Source(6)
		p := newPair(t, formatted(t, h, "one"), h, "one")
		for range 60 {
			p.anyCall(&source)
		}
		return p
	}
	if one, other := run(), run(); !sample.SameDisks(one.d, other.d) {
		t.Error("another disk")
	}
}

// P24.3: two epochs' numbers, and that there is none behind the last one, are layer 23's; a whole volume comes that far only by its block of keys.
func TestEpochs(t *testing.T) {
	h := headOf(4, 1, 4, 20)
	p := newPair(t, formatted(t, h, "one"), h, "one")
	for epoch := range 5 {
		if i, e := p.info(); e != api.OK || i.Epoch != epoch+1 || i.Left != 0 {
			t.Errorf("%+v, %d", i, e)
		}
		p.rekeyStart(keysOf(epoch))
		if i, e := p.info(); e != api.OK || i.Epoch != epoch+2 || i.Left != 1 {
			t.Errorf("%+v, %d", i, e)
		}
		if done, e := p.rekeyStep(); !done || e != api.OK {
			t.Errorf("%v, %d", done, e)
		}
	}
}

// R3: answers are new memory, and what is handed in is not changed, and not kept.
func TestMemory(t *testing.T) {
	h := headOf(9, 3, 2, 20)
	d := formatted(t, h, "one")
	v := opened(t, d, "one")
	b := sample.Bytes(600)
	if e := v.Write(3, b[:512]); e != api.OK || !bytes.Equal(b, sample.Bytes(600)) {
		t.Errorf("Write: %d, or it changed what it was given", e)
	}
	clear(b)
	for n, want := range map[int][]byte{3: sample.Bytes(512), 4: make([]byte, 512)} {
		if got, e := v.Read(n); e != api.OK || !bytes.Equal(got, want) {
			t.Errorf("Read(%d): %d, or other bytes", n, e)
		}
		if wrong := sample.NotNew(func() []byte { b, _ := v.Read(n); return b }); wrong != "" {
			t.Errorf("Read(%d): %s", n, wrong)
		}
	}
	password := []byte("two, and more")
	if e := v.SlotAdd(1, password[:3], saltOf(2)); e != api.OK || string(password) != "two, and more" {
		t.Errorf("SlotAdd: %d, %q", e, password)
	}
	clear(password)
	opened(t, d, "two")
	first, _ := v.Info()
	for i := range first.Slots[:cap(first.Slots)] {
		first.Slots[:cap(first.Slots)][i] = i == 2
	}
	if i, e := v.Info(); e != api.OK || !slices.Equal(i.Slots, []bool{true, true, false}) {
		t.Errorf("Info: %+v, %d", i, e)
	}
}
