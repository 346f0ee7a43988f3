package keyring

import (
	"bytes"
	"math"
	"slices"
	"testing"

	"casket/api"
	"casket/cache"
	"casket/disk"
	"casket/head"
	"casket/journal"
	"casket/merkle"
	"casket/sample"
	"casket/wrap"
)

// wild are numbers that no slot has.
var wild = []int{math.MinInt, math.MinInt + 1, math.MinInt32, -1 << 32, -1<<32 + 1, -2, -1, 9, 10, 1 << 16, 1<<31 - 1, 1 << 32, 1<<32 + 1, math.MaxInt - 1, math.MaxInt}

// masterKey is the one of most of these tests.
var masterKey = [32]byte([]byte("a master key of thirty-two bytes"))

const (
	journalBlocks = 20
	onDisk        = 0 // where a block's bytes lie: a stage reads them wherever that is
	inCache       = 1
	onStage       = 2
)

// headOf is a header with so many slots.
func headOf(slots int) api.Head {
	return api.Head{Generation: 1, Sectors: 4, Slots: slots, Journal: journalBlocks, Segment: 1, Params: api.Params{Time: 1, Memory: 8, Lanes: 1}, Name: [16]byte([]byte("sixteen letters."))}
}

// volume is a disk all of whose slots are empty, and a stage over it.
type volume struct {
	t *testing.T
	h api.Head
	l api.Layout
	d *disk.Disk
	c *cache.Cache
	s *merkle.Stage
}

func newVolume(t *testing.T, slots int) *volume {
	t.Helper()
	v := &volume{t: t, h: headOf(slots)}
	v.l, _ = head.Layout(v.h)
	v.d, _ = disk.New(v.l.Blocks)
	if e := journal.Init(v.d, v.l.Journal, journalBlocks); e != api.OK {
		t.Fatal("Init", e)
	}
	v.open()
	return v
}

// open is another stage, over a cache that is opened anew.
func (v *volume) open() {
	v.t.Helper()
	c, e := cache.Open(v.d, v.l.Journal, journalBlocks)
	if e != api.OK {
		v.t.Fatal("Open", e)
	}
	v.c, v.s = c, merkle.NewStage(c)
}

// put gives a block other bytes, wherever they are to lie. What lies above them must be none of the block's.
func (v *volume) put(where, n int, b []byte) {
	v.t.Helper()
	e := api.OK
	switch where {
	case onDisk:
		e = v.d.Tamper(n, b)
	case inCache:
		e = v.c.Commit([]api.Redo{{Block: n, Bytes: b}})
	case onStage:
		e = v.s.Write(n, b)
	}
	if e != api.OK {
		v.t.Fatal("put", where, n, e)
	}
}

// slots gives the slots other blocks, from slot 0 on.
func (v *volume) slots(where int, blocks ...[]byte) {
	v.t.Helper()
	for i, b := range blocks {
		v.put(where, 2+i, b)
	}
}

// same asks that a call changes nothing: not what is staged, nothing in the cache and on the disk, and no write or flush is asked of the disk.
func (v *volume) same(what string, call func()) {
	v.t.Helper()
	look := func() (int, []int, int, []api.Kept, [][]byte) {
		var blocks [][]byte
		for n := range v.l.Blocks {
			b, _ := v.s.Read(n)
			blocks = append(blocks, b, v.d.Sure(n))
		}
		return v.s.Len(), v.c.Dirty(), v.c.Used(), v.d.Unsure(), blocks
	}
	staged, dirty, used, unsure, blocks := look()
	wasOff := v.d.Off()
	v.d.Stop(1)
	call()
	if v.d.Off() != wasOff {
		v.t.Errorf("%s: something was written", what)
	}
	v.d.Stop(-1)
	staged2, dirty2, used2, unsure2, blocks2 := look()
	if staged != staged2 || !slices.Equal(dirty, dirty2) || used != used2 || !slices.Equal(unsure, unsure2) || !slices.EqualFunc(blocks, blocks2, bytes.Equal) {
		v.t.Errorf("%s: something was changed", what)
	}
}

// finds asks that a passphrase is found.
func (v *volume) finds(what, password string, master [32]byte, at int) {
	v.t.Helper()
	v.same(what, func() {
		v.t.Helper()
		if m, n, e := Find(v.s, v.h, []byte(password)); m != master || n != at || e != api.OK {
			v.t.Errorf("%s: Find(%q): %x, %d, %d, not of slot %d", what, password, m, n, e, at)
		}
	})
}

// findsNot asks that finding a passphrase is refused.
func (v *volume) findsNot(what, password string, want api.Errno) {
	v.t.Helper()
	v.same(what, func() {
		v.t.Helper()
		findRefused(v.t, what, v.s, v.h, password, want)
	})
}

// looks asks that the slots are found as they should be.
func (v *volume) looks(what string, want ...api.Look) {
	v.t.Helper()
	v.same(what, func() {
		v.t.Helper()
		if got, e := Looks(v.s, v.h); e != api.OK || !slices.Equal(got, want) {
			v.t.Errorf("%s: Looks: %v, %d, not %v", what, got, e, want)
		}
	})
}

// adds asks that a slot may be added, and is as it should be.
func (v *volume) adds(what string, at int, password string, salt [16]byte) api.Redo {
	v.t.Helper()
	var r api.Redo
	v.same(what, func() {
		v.t.Helper()
		var e api.Errno
		r, e = Add(v.s, v.h, masterKey, at, []byte(password), salt)
		want := active(v.h, masterKey, password, salt)
		if e != api.OK || r.Block != 2+at || !bytes.Equal(r.Bytes, want) {
			v.t.Errorf("%s: Add(%d): block %d, %x, %d, not %x", what, at, r.Block, r.Bytes, e, want)
		}
	})
	return r
}

// addsNot asks that a slot is not added.
func (v *volume) addsNot(what string, at int, password string, want api.Errno) {
	v.t.Helper()
	v.same(what, func() {
		v.t.Helper()
		r, e := Add(v.s, v.h, masterKey, at, []byte(password), [16]byte{1})
		redoRefused(v.t, what+": Add", r, e, want)
	})
}

// revokes asks that a slot may be revoked.
func (v *volume) revokes(what string, at int) api.Redo {
	v.t.Helper()
	var r api.Redo
	v.same(what, func() {
		v.t.Helper()
		var e api.Errno
		r, e = Revoke(v.s, v.h, at)
		if e != api.OK || r.Block != 2+at || !bytes.Equal(r.Bytes, make([]byte, 512)) {
			v.t.Errorf("%s: Revoke(%d): block %d, %x, %d", what, at, r.Block, r.Bytes, e)
		}
	})
	return r
}

// revokesNot asks that a slot is not revoked.
func (v *volume) revokesNot(what string, at int, want api.Errno) {
	v.t.Helper()
	v.same(what, func() {
		v.t.Helper()
		r, e := Revoke(v.s, v.h, at)
		redoRefused(v.t, what+": Revoke", r, e, want)
	})
}

func redoRefused(t *testing.T, what string, r api.Redo, e, want api.Errno) {
	t.Helper()
	if r.Block != 0 || len(r.Bytes) != 0 || e != want {
		t.Errorf("%s: block %d, %d bytes, %d, not %d", what, r.Block, len(r.Bytes), e, want)
	}
}

func findRefused(t *testing.T, what string, s *merkle.Stage, h api.Head, password string, want api.Errno) {
	t.Helper()
	if m, n, e := Find(s, h, []byte(password)); m != [32]byte{} || n != 0 || e != want {
		t.Errorf("%s: Find: %x, %d, %d, not %d", what, m, n, e, want)
	}
}

func looksRefused(t *testing.T, what string, s *merkle.Stage, h api.Head, want api.Errno) {
	t.Helper()
	if got, e := Looks(s, h); len(got) != 0 || e != want {
		t.Errorf("%s: Looks: %v, %d, not %d", what, got, e, want)
	}
}

// slotRefused asks that each call on slots refuses what it is given.
func slotRefused(t *testing.T, what string, s *merkle.Stage, h api.Head, want api.Errno) {
	t.Helper()
	looksRefused(t, what, s, h, want)
	findRefused(t, what, s, h, "one", want)
	findRefused(t, what, s, h, "", want)
	for _, at := range append([]int{0, 1}, wild...) {
		for _, password := range [][]byte{nil, []byte("one"), make([]byte, 513)} {
			r, e := Add(s, h, masterKey, at, password, [16]byte{})
			redoRefused(t, what+": Add", r, e, want)
		}
		r, e := Revoke(s, h, at)
		redoRefused(t, what+": Revoke", r, e, want)
	}
}

// says is what a slot's block says, as the chapters 12 and 21 word it.
func says(b []byte) api.Look {
	zeros := make([]byte, 512)
	if bytes.Equal(b, zeros) {
		return api.Look{Right: true}
	}
	if !bytes.Equal(b[:4], []byte("SLOT")) || !bytes.Equal(b[84:], zeros[84:]) {
		return api.Look{}
	}
	return api.Look{Right: true, Slot: api.Slot{Active: true, Salt: [16]byte(b[4:20]), Wrapped: [32]byte(b[20:52]), Tag: [32]byte(b[52:84])}}
}

// active is the block of a slot that a passphrase has.
func active(h api.Head, master [32]byte, password string, salt [16]byte) []byte {
	x, _ := wrap.Wrap(h, master, []byte(password), salt)
	return filled([]byte("SLOT"), x.Salt[:], x.Wrapped[:], x.Tag[:])
}

// filled is a block that begins with some parts, and has zeros behind them.
func filled(parts ...[]byte) []byte {
	b := make([]byte, 512)
	copy(b, slices.Concat(parts...))
	return b
}

// turned is a block with one bit turned.
func turned(b []byte, bit int) []byte {
	other := bytes.Clone(b)
	other[bit/8] ^= 1 << (bit % 8)
	return other
}

// anyBlock is a slot's block or none, of one of many kinds.
func anyBlock(source *sample.Source) []byte {
	right := filled([]byte("SLOT"), source.Bytes(80))
	switch source.Below(8) {
	case 0, 1:
		return make([]byte, 512)
	case 2:
		return filled([]byte("SLOT"))
	case 3:
		return turned(right, source.Below(32))
	case 4:
		return turned(right, 8*84+source.Below(8*(512-84)))
	case 5:
		return turned(make([]byte, 512), source.Below(8*512))
	case 6:
		return source.Bytes(512)
	}
	return right
}

// P21.2: the chapter's example.
func TestExample(t *testing.T) {
	v := newVolume(t, 2)
	v.slots(inCache, active(v.h, masterKey, "one", [16]byte{1}), active(v.h, masterKey, "two", [16]byte{2}))
	r := v.revokes("the example", 0)
	if r.Block != 2 {
		t.Errorf("block %d", r.Block)
	}
	v.put(onStage, r.Block, r.Bytes)
	v.revokesNot("the example", 1, api.ErrLast)
}

// P21.1: all looks, in order, wherever the blocks lie.
func TestLooks(t *testing.T) {
	source := sample.Source(1)
	for slots := 1; slots <= 8; slots++ {
		for range 20 {
			v := newVolume(t, slots)
			v.put(onDisk, 0, source.Bytes(512))
			v.put(onDisk, 2+slots, source.Bytes(512))
			var want []api.Look
			for i := range slots {
				var b []byte
				for where := range 1 + source.Below(3) { // the uppermost one is read
					b = anyBlock(&source)
					v.put(where, 2+i, b)
				}
				want = append(want, says(b))
			}
			v.looks("any blocks", want...)
		}
	}
}

// P21.1: each bit of a slot's block.
func TestLooksAtEachBit(t *testing.T) {
	v := newVolume(t, 1)
	for _, right := range [][]byte{make([]byte, 512), active(v.h, masterKey, "one", [16]byte{3})} {
		for bit := range 8 * 512 {
			b := turned(right, bit)
			v.put(onStage, 2, b)
			if got, e := Looks(v.s, v.h); e != api.OK || len(got) != 1 || got[0] != says(b) {
				t.Errorf("bit %d: %v, %d", bit, got, e)
			}
		}
	}
}

// P21.1, P21.2: no stage, headers that may not be; also where the disk is off.
func TestWrongArguments(t *testing.T) {
	v := newVolume(t, 3)
	v.slots(onStage, active(v.h, masterKey, "one", [16]byte{1}))
	for range 2 {
		v.same("refused", func() {
			slotRefused(t, "no stage", nil, v.h, api.ErrArg)
			for _, h := range sample.WrongHeads(v.h) {
				slotRefused(t, "a header", v.s, h, api.ErrArg)
				slotRefused(t, "a header and no stage", nil, h, api.ErrArg)
			}
		})
		v.d.Stop(0)
	}
}

// P21.1, P21.2: what reading a slot's block refuses, whichever it is, ahead of all that hangs on the blocks.
func TestReadingIsRefused(t *testing.T) {
	for unread := range 4 {
		v := newVolume(t, 4)
		blocks := [][]byte{active(v.h, masterKey, "one", [16]byte{1}), make([]byte, 512), sample.Bytes(512), active(v.h, masterKey, "two", [16]byte{2})}
		for i, b := range blocks {
			if i != unread {
				v.put(onStage, 2+i, b)
			}
		}
		v.d.Stop(0)
		v.same("off", func() { slotRefused(t, "off", v.s, v.h, api.ErrIO) })
		v.put(onStage, 2+unread, blocks[unread]) // all are staged: nothing is asked of the disk
		v.looks("off, but all are staged", says(blocks[0]), says(blocks[1]), says(blocks[2]), says(blocks[3]))
		v.finds("off, but all are staged", "two", masterKey, 3)
		v.adds("off, but all are staged", 1, "three", [16]byte{3})
		v.revokes("off, but all are staged", 2)
	}
}

// P21.1: a cache that is of no more use.
func TestCacheIsOfNoMoreUse(t *testing.T) {
	v := newVolume(t, 2)
	v.slots(inCache, active(v.h, masterKey, "one", [16]byte{1}), active(v.h, masterKey, "two", [16]byte{2}))
	v.d.Stop(0)
	v.finds("the disk is off, the blocks are in the cache", "two", masterKey, 1)
	if e := v.c.Flush(); e != api.ErrIO {
		t.Fatal(e)
	}
	slotRefused(t, "failed", v.s, v.h, api.ErrIO)
	v.d.Crash(nil)
	slotRefused(t, "failed", v.s, v.h, api.ErrIO)
}

// P21.1: passphrases that are too long, ahead of reading; the longest one that may be.
func TestLongPassphrases(t *testing.T) {
	longest := string(sample.Bytes(512))
	v := newVolume(t, 2)
	v.slots(onDisk, make([]byte, 512), active(v.h, masterKey, longest, [16]byte{1}))
	v.finds("the longest", longest, masterKey, 1)
	v.findsNot("shorter", longest[:511], api.ErrNoKey)
	for _, size := range []int{513, 514, 1024, 1 << 16} {
		v.findsNot("too long", string(sample.Bytes(size)), api.ErrArg)
	}
	v.d.Stop(0)
	v.findsNot("too long, off", longest+"x", api.ErrArg)
	v.findsNot("the longest, off", longest, api.ErrIO)
	findRefused(t, "too long, no stage", nil, v.h, longest+"x", api.ErrArg)
}

// P21.1: the first slot that a passphrase unwraps, whatever the others are.
func TestFind(t *testing.T) {
	v := newVolume(t, 8)
	v.findsNot("all are empty", "one", api.ErrNoKey)
	v.findsNot("all are empty", "", api.ErrNoKey)
	other := [32]byte{1}
	right := active(v.h, masterKey, "one", [16]byte{1})
	v.slots(onDisk,
		sample.Bytes(512),
		filled([]byte("SLOT")),
		turned(right, 8*52),  // another tag
		turned(right, 8*511), // no slot
		active(v.h, masterKey, "two", [16]byte{1}),
		active(v.h, other, "one", [16]byte{2}),
		right,
		active(v.h, [32]byte{}, "", [16]byte{}))
	v.finds("twice, under two master keys", "one", other, 5)
	v.finds("elsewhere", "two", masterKey, 4)
	v.finds("the empty one, and a master key of zeros", "", [32]byte{}, 7)
	for _, password := range []string{"One", "one ", "one\x00", "onetwo", "three", "\x00"} {
		v.findsNot("another one", password, api.ErrNoKey)
	}
	v.put(onDisk, 2+5, turned(active(v.h, other, "one", [16]byte{2}), 8*30))
	v.finds("the second one of two", "one", masterKey, 6)
	v.h.Name[0]++
	v.findsNot("another name", "one", api.ErrNoKey)
}

// P21.1: only the header's slots count.
func TestFindOfFewerSlots(t *testing.T) {
	v := newVolume(t, 8)
	v.slots(onDisk, make([]byte, 512), active(v.h, masterKey, "one", [16]byte{1}), active(v.h, masterKey, "two", [16]byte{2}))
	v.h.Slots = 2
	v.finds("within", "one", masterKey, 1)
	v.findsNot("beyond", "two", api.ErrNoKey)
	v.h.Slots = 1
	v.findsNot("beyond", "one", api.ErrNoKey)
}

// P21.2: each slot of each count, with passphrases at the edges.
func TestAdd(t *testing.T) {
	source := sample.Source(2)
	for slots := 1; slots <= 8; slots++ {
		v := newVolume(t, slots)
		for at := range slots {
			for _, size := range []int{0, 1, 20, 512} {
				v.adds("empty", at, string(source.Bytes(size)), [16]byte(source.Bytes(16)))
			}
		}
	}
}

// P21.2: what Add refuses, and in which order.
func TestAddIsRefused(t *testing.T) {
	long := string(sample.Bytes(513))
	v := newVolume(t, 4)
	v.slots(inCache, active(v.h, masterKey, "one", [16]byte{1}), sample.Bytes(512), filled([]byte("SLOT")))
	for _, password := range []string{"", "one", "two", long} {
		for _, at := range append([]int{4, 5, 8}, wild...) {
			v.addsNot("no such slot", at, password, api.ErrRange)
		}
		for at := range 3 {
			v.addsNot("taken", at, password, api.ErrTwice)
		}
	}
	v.addsNot("too long", 3, long, api.ErrArg)
	v.addsNot("much too long", 3, string(sample.Bytes(1<<16)), api.ErrArg)
	v.adds("the last empty one", 3, "one", [16]byte{9})
}

// P21.2: of slots of all kinds those are revoked that are taken, but not the last one that is Active.
func TestRevoke(t *testing.T) {
	kinds := [][]byte{make([]byte, 512), active(headOf(3), masterKey, "one", [16]byte{1}), turned(make([]byte, 512), 99), filled([]byte("SLOT"))}
	for i := range len(kinds) * len(kinds) * len(kinds) {
		v := newVolume(t, 3)
		chosen := [][]byte{kinds[i%4], kinds[i/4%4], kinds[i/16]}
		v.slots(onStage, chosen...)
		count := 0
		for _, b := range chosen {
			if says(b).Slot.Active {
				count++
			}
		}
		for at, b := range chosen {
			look := says(b)
			switch {
			case look.Right && !look.Slot.Active:
				v.revokesNot("empty", at, api.ErrNone)
			case look.Slot.Active && count == 1:
				v.revokesNot("the last", at, api.ErrLast)
			default:
				v.revokes("taken", at)
			}
		}
		for _, at := range append([]int{3, 4}, wild...) {
			v.revokesNot("no such slot", at, api.ErrRange)
		}
	}
}

// P21.2: one slot alone.
func TestRevokeOfOneSlot(t *testing.T) {
	v := newVolume(t, 1)
	v.revokesNot("empty", 0, api.ErrNone)
	v.put(onStage, 2, active(v.h, masterKey, "one", [16]byte{1}))
	v.revokesNot("the last", 0, api.ErrLast)
	v.put(onStage, 2, sample.Bytes(512))
	v.revokes("no slot's block", 0)
}

// P21.4: slots that are added and revoked, one behind the other: passphrases are found as long as a slot has them.
func TestSlotsComeAndGo(t *testing.T) {
	source := sample.Source(3)
	passphrases := []string{"", "one", "two", "three", string(source.Bytes(512))}
	v := newVolume(t, 4)
	has := map[int]string{}
	for i := range 300 {
		at, password := source.Below(4), passphrases[source.Below(len(passphrases))]
		_, taken := has[at]
		var r api.Redo
		switch add := source.Below(2) == 0; {
		case add && taken:
			v.addsNot("taken", at, password, api.ErrTwice)
			continue
		case add:
			r = v.adds("empty", at, password, [16]byte(source.Bytes(16)))
			has[at] = password
		case !taken:
			v.revokesNot("empty", at, api.ErrNone)
			continue
		case len(has) == 1:
			v.revokesNot("the last", at, api.ErrLast)
			continue
		default:
			r = v.revokes("taken", at)
			delete(has, at)
		}
		v.put(onStage, r.Block, r.Bytes)
		if i%7 == 0 {
			if e := v.s.Commit(); e != api.OK {
				t.Fatal(e)
			}
			v.c.Flush()
			v.d.Crash(nil)
			v.open()
		}
		v.hasJust(has, passphrases)
	}
}

// hasJust asks that the slots have just these passphrases, and the others zeros.
func (v *volume) hasJust(has map[int]string, passphrases []string) {
	v.t.Helper()
	for at := range v.h.Slots {
		b, _ := v.s.Read(2 + at)
		if _, taken := has[at]; !taken && !bytes.Equal(b, make([]byte, 512)) {
			v.t.Errorf("slot %d: something is left", at)
		}
	}
	for _, password := range passphrases {
		first := -1
		for at := range v.h.Slots {
			if had, taken := has[at]; taken && had == password && first < 0 {
				first = at
			}
		}
		if first < 0 {
			v.findsNot("nobody has it", password, api.ErrNoKey)
		} else {
			v.finds("a slot has it", password, masterKey, first)
		}
	}
}

// R3: what is handed in is left alone, and is not kept.
func TestPassphrasesAreLeftAlone(t *testing.T) {
	room := sample.Bytes(100)
	kept := bytes.Clone(room)
	v := newVolume(t, 2)
	r, _ := Add(v.s, v.h, masterKey, 1, room[:20], [16]byte{2})
	Find(v.s, v.h, room[:20])
	if !bytes.Equal(room, kept) {
		t.Error("a passphrase was changed")
	}
	clear(room)
	v.put(onStage, r.Block, r.Bytes)
	v.finds("the passphrase changed behind the call", string(kept[:20]), masterKey, 1)
}

// R3: answers are new memory.
func TestAnswersAreNew(t *testing.T) {
	v := newVolume(t, 3)
	v.slots(onStage, active(v.h, masterKey, "one", [16]byte{1}), active(v.h, masterKey, "two", [16]byte{2}))
	if wrong := sample.NotNew(func() []byte { r, _ := Add(v.s, v.h, masterKey, 2, []byte("x"), [16]byte{}); return r.Bytes }); wrong != "" {
		t.Errorf("Add: %s", wrong)
	}
	if wrong := sample.NotNew(func() []byte { r, _ := Revoke(v.s, v.h, 0); return r.Bytes }); wrong != "" {
		t.Errorf("Revoke: %s", wrong)
	}
	one, _ := Looks(v.s, v.h)
	other, _ := Looks(v.s, v.h)
	kept := slices.Clone(other)
	if behind := one[3:cap(one)]; slices.ContainsFunc(behind, func(x api.Look) bool { return x != api.Look{} }) {
		t.Error("something is in the room behind the looks")
	}
	clear(one[:cap(one)])
	if !slices.Equal(other, kept) {
		t.Error("looks share memory")
	}
	v.looks("behind answers that were changed", kept...)
}
