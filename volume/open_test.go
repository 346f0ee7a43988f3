package volume

import (
	"bytes"
	"slices"
	"strings"
	"testing"

	"casket/api"
	"casket/disk"
	"casket/head"
	"casket/journal"
	"casket/keyring"
	"casket/sample"
	"casket/seal"
	"casket/wrap"
)

// P24.2: what may not be, ahead of reading.
func TestOpenOfWrongArguments(t *testing.T) {
	long := strings.Repeat("x", 513)
	for _, password := range []string{"", "one", long} {
		if v, e := Open(nil, []byte(password)); v != nil || e != api.ErrArg {
			t.Errorf("no disk: %d", e)
		}
	}
	empty, _ := disk.New(1)
	off := formatted(t, headOf(9, 2, 2, 16), "one")
	off.Stop(0)
	for _, d := range []*disk.Disk{empty, off, formatted(t, headOf(9, 2, 2, 16), "one")} {
		opensNot(t, "too long", d, long, api.ErrArg)
		opensNot(t, "too long", d, long+long, api.ErrArg)
	}
}

// P24.2: what reading the headers' blocks refuses; a disk without them.
func TestOpenOfNoVolume(t *testing.T) {
	for _, blocks := range []int{1, 2, 3, 100, 4096} {
		d, _ := disk.New(blocks)
		opensNot(t, "zeros", d, "one", api.ErrFormat)
		opensNot(t, "other bytes", dirtyDisk(blocks), "one", api.ErrFormat)
		d.Stop(0)
		opensNot(t, "off", d, "one", api.ErrIO)
	}
	d := formatted(t, headOf(9, 2, 2, 16), "one")
	d.Stop(0)
	opensNot(t, "off", d, "one", api.ErrIO)
	opensNot(t, "off, another passphrase", d, "two", api.ErrIO)
	d.Crash(nil)
	opened(t, d, "one")
	// A disk of one block that is a header.
	b, _ := head.Encode(headOf(9, 2, 2, 16))
	d, _ = disk.New(1)
	d.Tamper(0, b)
	opensNot(t, "one block", d, "one", api.ErrFormat)
}

// P24.2: one of the headers is enough; the later one holds; without both there is no volume.
func TestOpenByEitherHeader(t *testing.T) {
	source := sample.Source(1)
	h := headOf(9, 2, 2, 16)
	base := formatted(t, h, "one")
	v := opened(t, base, "one")
	x := source.Bytes(512)
	v.Write(4, x)
	v.Close()
	for block := range 2 {
		for _, b := range [][]byte{make([]byte, 512), source.Bytes(512), base.Sure(2)} {
			d := base.Fork()
			d.Tamper(block, b)
			if got, e := opened(t, d, "one").Read(4); e != api.OK || !bytes.Equal(got, x) {
				t.Errorf("header %d: sector 4: %d, or other bytes", block, e)
			}
			d.Tamper(1-block, b)
			opensNot(t, "no header", d, "one", api.ErrFormat)
		}
		later := h
		later.Generation, later.Segment = 9, 5
		b, _ := head.Encode(later)
		d := base.Fork()
		d.Tamper(block, b)
		if i, e := opened(t, d, "one").Info(); e != api.OK || i.Head != later {
			t.Errorf("a later header %d: %+v, %d", block, i, e)
		}
	}
	// Of two alike generations the first one.
	other := h
	other.Segment = 5
	b, _ := head.Encode(other)
	for block, want := range []api.Head{other, h} {
		d := base.Fork()
		d.Tamper(block, b)
		if i, e := opened(t, d, "one").Info(); e != api.OK || i.Head != want {
			t.Errorf("another header %d: %+v, %d", block, i, e)
		}
	}
}

// P24.2: a disk that has fewer blocks than the layout of the header that holds, or just as many, or more.
func TestOpenOfAShortDisk(t *testing.T) {
	for _, h := range heads()[:5] {
		whole := formatted(t, h, "one")
		for _, more := range []int{-1, 0, 1} {
			d, _ := disk.New(whole.Len() + more)
			for n := range min(d.Len(), whole.Len()) {
				d.Tamper(n, whole.Sure(n))
			}
			if more < 0 {
				opensNot(t, "short", d, "one", api.ErrFormat)
				opensNot(t, "short", d, "two", api.ErrFormat)
			} else {
				opened(t, d, "one")
			}
		}
	}
	// The later header holds, also where the other one's volume would be there.
	h := headOf(9, 2, 2, 16)
	d := formatted(t, h, "one")
	h.Generation, h.Sectors = 2, 10
	b, _ := head.Encode(h)
	d.Tamper(1, b)
	opensNot(t, "a longer one", d, "one", api.ErrFormat)
}

// P24.2: a journal without a mark, ahead of the passphrase.
func TestOpenWithoutAMark(t *testing.T) {
	h := headOf(9, 2, 2, 16)
	base := formatted(t, h, "one")
	l := layoutOf(t, h)
	for _, b := range [][]byte{make([]byte, 512), sample.Bytes(512), base.Sure(0)} {
		d := base.Fork()
		d.Tamper(l.Journal, b)
		for _, password := range []string{"one", "two"} {
			opensNot(t, "no mark", d, password, api.ErrFormat)
		}
	}
	right := base.Sure(l.Journal)
	for bit := range 4096 {
		b := bytes.Clone(right)
		b[bit/8] ^= 1 << (bit % 8)
		base.Tamper(l.Journal, b)
		if v, e := Open(base, []byte("one")); v != nil || e != api.ErrFormat {
			t.Fatalf("bit %d of the mark: %d", bit, e)
		}
	}
}

// P24.2: the passphrase, then the block of keys, then the root: what is refused first is told.
func TestOpenInOrder(t *testing.T) {
	h := headOf(9, 2, 2, 16)
	base := formatted(t, h, "one")
	l := layoutOf(t, h)
	master := freshOf(1).Master
	ring := func(epochs ...int) []api.EpochKeys {
		var list []api.EpochKeys
		for _, n := range epochs {
			list = append(list, api.EpochKeys{Epoch: n, Data: [32]byte{byte(n)}})
		}
		return list
	}
	keys := func(master [32]byte, epochs ...int) []byte {
		x, e := keyring.Keys(h, master, ring(epochs...))
		if e != api.OK {
			t.Fatal("Keys", e)
		}
		return x.Bytes
	}
	root := func(r api.Root) []byte {
		b, e := seal.RootBlock(wrap.Root(master), h, r)
		if e != api.OK {
			t.Fatal("RootBlock", e)
		}
		return b
	}
	garbage := sample.Bytes(512)
	for _, x := range []struct {
		what       string
		keys, root []byte
		want       api.Errno
	}{
		{"as they are", base.Sure(l.Keys), base.Sure(l.Root), api.OK},
		{"other keys", keys(master, 7), base.Sure(l.Root), api.OK},
		{"no keys", garbage, base.Sure(l.Root), api.ErrIntegrity},
		{"zeros", make([]byte, 512), base.Sure(l.Root), api.ErrIntegrity},
		{"keys of another master key", keys([32]byte{1}, 1), base.Sure(l.Root), api.ErrIntegrity},
		{"no root", base.Sure(l.Keys), garbage, api.ErrIntegrity},
		{"two epochs, no rekey", keys(master, 1, 2), base.Sure(l.Root), api.ErrIntegrity},
		{"one epoch, a rekey", base.Sure(l.Keys), root(api.Root{Rekeying: true}), api.ErrIntegrity},
		{"two epochs, a rekey", keys(master, 1, 2), root(api.Root{Rekeying: true, Frontier: 9}), api.OK},
		{"neither", garbage, garbage, api.ErrIntegrity},
	} {
		d := base.Fork()
		d.Tamper(l.Keys, x.keys)
		d.Tamper(l.Root, x.root)
		opensNot(t, x.what, d, "two", api.ErrNoKey)
		opensNot(t, x.what, d, "", api.ErrNoKey)
		if x.want != api.OK {
			opensNot(t, x.what, d, "one", x.want)
		} else if i, e := opened(t, d, "one").Info(); e != api.OK || x.what == "other keys" && i.Epoch != 7 || x.what == "two epochs, a rekey" && i.Left != 1 {
			t.Errorf("%s: %+v, %d", x.what, i, e)
		}
	}
}

// P24.2: the first slot that the passphrase opens; slots that are none open nothing.
func TestOpenBySlots(t *testing.T) {
	h := headOf(9, 8, 2, 30)
	d := formatted(t, h, "one")
	v := opened(t, d, "one")
	for at, password := range map[int]string{1: "two", 3: "one", 4: "", 7: string(sample.Bytes(512))} {
		if e := v.SlotAdd(at, []byte(password), saltOf(at)); e != api.OK {
			t.Fatal("SlotAdd", e)
		}
	}
	if e := v.Close(); e != api.OK {
		t.Fatal("Close", e)
	}
	look := func(password string, want int) {
		t.Helper()
		v := opened(t, d, password)
		if i, e := v.Info(); e != api.OK || i.Slot != want {
			t.Errorf("%q: slot %d, %d, not %d", password, i.Slot, e, want)
		}
	}
	look("one", 0)
	look("two", 1)
	look("", 4)
	look(string(sample.Bytes(512)), 7)
	v = opened(t, d, "one")
	if e := v.SlotRevoke(0); e != api.OK {
		t.Fatal("SlotRevoke", e)
	}
	look("one", 3)
	d.Tamper(2+1, sample.Bytes(512))
	look("one", 3)
	opensNot(t, "no slot", d, "two", api.ErrNoKey)
}

// P24.2: blocks as the journal has them, that are not home yet, are what is opened.
func TestOpenOfAJournal(t *testing.T) {
	source := sample.Source(2)
	h := headOf(9, 2, 2, 60)
	d := formatted(t, h, "one")
	v := opened(t, d, "one")
	x := source.Bytes(512)
	for _, e := range []api.Errno{v.Write(4, x), v.SlotAdd(1, []byte("two"), saltOf(1)), v.RekeyStart(keysOf(2)), v.Flush()} {
		if e != api.OK {
			t.Fatal(e)
		}
	}
	home, _ := disk.New(d.Len())
	for n := range d.Len() {
		home.Tamper(n, d.Sure(n))
	}
	_, redos, e := journal.Open(d, layoutOf(t, h).Journal, 60)
	if e != api.OK || len(redos) == 0 {
		t.Fatal("journal.Open", len(redos), e)
	}
	for _, d := range []*disk.Disk{d, home} {
		v := opened(t, d, "two")
		if i, e := v.Info(); e != api.OK || i.Epoch != 2 || i.Left != 5 || i.Counter != 3 || !slices.Equal(i.Slots, []bool{true, true}) || i.Slot != 1 {
			t.Errorf("%+v, %d", i, e)
		}
		if b, e := v.Read(4); e != api.OK || !bytes.Equal(b, x) {
			t.Errorf("Read: %d, or other bytes", e)
		}
	}
}
