package disk

import (
	"bytes"
	"math"
	"slices"
	"testing"

	"casket/api"
	"casket/sample"
)

// wild are numbers that no disk has a block of.
var wild = []int{math.MinInt, math.MinInt32, -4096, -2, -1, 4096, 4097, 1 << 16, 1 << 32, 1<<32 + 1, math.MaxInt}

// block is 512 bytes that differ by their number.
func block(number int) []byte {
	source := sample.Source(number)
	return source.Bytes(512)
}

func diskOf(t *testing.T, blocks int) *Disk {
	t.Helper()
	d, e := New(blocks)
	if e != api.OK || d == nil {
		t.Fatalf("New(%d): %v, %d", blocks, d, e)
	}
	return d
}

// write writes blocks that are not refused, by their numbers.
func write(t *testing.T, d *Disk, n int, numbers ...int) {
	t.Helper()
	for _, number := range numbers {
		if e := d.Write(n, block(number)); e != api.OK {
			t.Fatalf("Write(%d): %d", n, e)
		}
	}
}

// writeBoth writes such blocks to a disk and to the worded one.
func writeBoth(t *testing.T, d *Disk, want *wordedDisk, n int, numbers ...int) {
	t.Helper()
	write(t, d, n, numbers...)
	for _, number := range numbers {
		want.write(n, block(number))
	}
}

// readOf is what a block has that is not refused.
func readOf(t *testing.T, d *Disk, n int) []byte {
	t.Helper()
	b, e := d.Read(n)
	if e != api.OK {
		t.Fatalf("Read(%d): %d", n, e)
	}
	return b
}

// wordedDisk is a disk as the chapter words it: of each block the sure bytes, and behind them the unsure writes.
type wordedDisk struct {
	blocks [][][512]byte
	stop   int // further calls that are OK till the disk is off; below 0: never
	off    bool
}

func wordedOf(blocks int) *wordedDisk {
	d := &wordedDisk{stop: -1}
	for range blocks {
		d.blocks = append(d.blocks, make([][512]byte, 1))
	}
	return d
}

func (d *wordedDisk) fork() *wordedDisk {
	other := &wordedDisk{stop: d.stop, off: d.off}
	for _, b := range d.blocks {
		other.blocks = append(other.blocks, append([][512]byte{}, b...))
	}
	return other
}

// called counts a call that is OK.
func (d *wordedDisk) called() {
	if d.stop > 0 {
		d.stop--
		d.off = d.stop == 0
	}
}

func (d *wordedDisk) check(n int, b []byte) api.Errno {
	switch {
	case n < 0 || n >= len(d.blocks):
		return api.ErrRange
	case len(b) != 512:
		return api.ErrSize
	}
	return api.OK
}

func (d *wordedDisk) write(n int, b []byte) api.Errno {
	if e := d.check(n, b); e != api.OK {
		return e
	}
	if d.off {
		return api.ErrIO
	}
	d.blocks[n] = append(d.blocks[n], [512]byte(b))
	d.called()
	return api.OK
}

func (d *wordedDisk) flush() api.Errno {
	if d.off {
		return api.ErrIO
	}
	for n, b := range d.blocks {
		d.blocks[n] = b[len(b)-1:]
	}
	d.called()
	return api.OK
}

func (d *wordedDisk) crash(keep []api.Kept) api.Errno {
	writes := make([]int, len(d.blocks))
	for i, k := range keep {
		twice := slices.ContainsFunc(keep[:i], func(other api.Kept) bool { return other.Block == k.Block })
		if twice || k.Block < 0 || k.Block >= len(d.blocks) || k.Writes < 0 || k.Writes > len(d.blocks[k.Block])-1 {
			return api.ErrArg
		}
		writes[k.Block] = k.Writes
	}
	for n, b := range d.blocks {
		d.blocks[n] = b[writes[n] : writes[n]+1]
	}
	d.off, d.stop = false, -1
	return api.OK
}

func (d *wordedDisk) tamper(n int, b []byte) api.Errno {
	if e := d.check(n, b); e != api.OK {
		return e
	}
	d.blocks[n] = [][512]byte{[512]byte(b)}
	return api.OK
}

func (d *wordedDisk) stopAt(n int) {
	if !d.off {
		d.stop, d.off = n, n == 0
	}
}

// same holds a disk against the worded one, by all that it tells.
func (d *wordedDisk) same(t *testing.T, got *Disk) {
	t.Helper()
	if got.Len() != len(d.blocks) || got.Off() != d.off {
		t.Fatalf("Len %d, not %d; Off %v, not %v", got.Len(), len(d.blocks), got.Off(), d.off)
	}
	var unsure []api.Kept
	for n, b := range d.blocks {
		if len(b) > 1 {
			unsure = append(unsure, api.Kept{Block: n, Writes: len(b) - 1})
		}
		if sure := got.Sure(n); !bytes.Equal(sure, b[0][:]) {
			t.Fatalf("block %d: for sure %x, not %x", n, sure, b[0])
		}
		read, e := got.Read(n)
		if d.off && (len(read) != 0 || e != api.ErrIO) {
			t.Fatalf("block %d of a disk that is off: %x, %d", n, read, e)
		}
		if !d.off && (!bytes.Equal(read, b[len(b)-1][:]) || e != api.OK) {
			t.Fatalf("block %d: %x, %d, not %x", n, read, e, b[len(b)-1])
		}
	}
	if list := got.Unsure(); !slices.Equal(list, unsure) {
		t.Fatalf("unsure: %v, not %v", list, unsure)
	}
}

// anyKeep is how many writes a crash keeps of some blocks, now and then of one that there is not, or more than there are.
func anyKeep(source *sample.Source, d *wordedDisk) []api.Kept {
	var keep []api.Kept
	for n, b := range d.blocks {
		if source.Below(4) > 0 {
			keep = append(keep, api.Kept{Block: n, Writes: source.Below(len(b))})
		}
	}
	for i := range keep {
		j := source.Below(i + 1)
		keep[i], keep[j] = keep[j], keep[i]
	}
	if len(keep) > 0 && source.Below(3) == 0 {
		k := &keep[source.Below(len(keep))]
		switch source.Below(4) {
		case 0:
			k.Block = source.Below(len(d.blocks)+2) - 1
		case 1:
			k.Writes = len(d.blocks[k.Block])
		case 2:
			k.Writes = -1
		case 3:
			keep = append(keep, *k)
		}
	}
	return keep
}

// anyCall does to a disk and to the worded one the same, and holds what they answer against each other.
func anyCall(t *testing.T, source *sample.Source, d *Disk, want *wordedDisk) {
	t.Helper()
	n := source.Below(len(want.blocks))
	b := source.Bytes(512)
	if source.Below(10) == 0 {
		n = source.Below(len(want.blocks)+4) - 2
		b = source.Bytes(511 + source.Below(3))
	}
	var got, told api.Errno
	switch what := source.Below(20); {
	case what < 10:
		got, told = d.Write(n, b), want.write(n, b)
	case what < 12:
		got, told = d.Flush(), want.flush()
	case what < 15:
		keep := anyKeep(source, want)
		got, told = d.Crash(keep), want.crash(keep)
	case what < 17:
		got, told = d.Tamper(n, b), want.tamper(n, b)
	case what < 19:
		calls := source.Below(12) - 1
		d.Stop(calls)
		want.stopAt(calls)
	default:
		list, e := d.Read(n)
		got, told = e, want.check(n, make([]byte, 512))
		if told == api.OK && want.off {
			told = api.ErrIO
		}
		if e != api.OK && len(list) != 0 {
			t.Fatalf("Read(%d): %x beside %d", n, list, e)
		}
	}
	if got != told {
		t.Fatalf("%d is told, not %d", got, told)
	}
}

// P10.1, P10.2, P10.3: calls of all kinds, one behind the other, of a disk and of forks of it.
func TestAsWorded(t *testing.T) {
	source := sample.Source(1)
	for range 60 {
		blocks := 1 + source.Below(6)
		disks, worded := []*Disk{diskOf(t, blocks)}, []*wordedDisk{wordedOf(blocks)}
		for range 150 {
			i := source.Below(len(disks))
			anyCall(t, &source, disks[i], worded[i])
			if source.Below(20) == 0 {
				disks, worded = append(disks, disks[i].Fork()), append(worded, worded[i].fork())
			}
			for j, want := range worded {
				if j == i || source.Below(10) == 0 {
					want.same(t, disks[j])
				}
			}
		}
		for j, want := range worded {
			want.same(t, disks[j])
		}
	}
}

// P10.1
func TestNew(t *testing.T) {
	for _, blocks := range []int{1, 2, 3, 4095, 4096} {
		wordedOf(blocks).same(t, diskOf(t, blocks))
	}
	for _, blocks := range []int{math.MinInt, math.MinInt32, -4096, -1, 0, 4097, 4098, 1 << 16, 1 << 32, 1<<32 + 1, math.MaxInt} {
		if d, e := New(blocks); d != nil || e != api.ErrArg {
			t.Errorf("New(%d): %v, %d", blocks, d, e)
		}
	}
}

// P10.1: the first and the last block are there, and none beside them.
func TestEdgesOfADisk(t *testing.T) {
	for _, blocks := range []int{1, 2, 100, 4096} {
		d := diskOf(t, blocks)
		write(t, d, blocks-1, 7)
		write(t, d, 0, 8)
		if !bytes.Equal(readOf(t, d, 0), block(8)) || blocks > 1 && !bytes.Equal(readOf(t, d, blocks-1), block(7)) {
			t.Errorf("%d blocks: others are read", blocks)
		}
		for _, n := range append(wild, blocks, blocks+1) {
			if b, e := d.Read(n); len(b) != 0 || e != api.ErrRange {
				t.Errorf("%d blocks: Read(%d): %x, %d", blocks, n, b, e)
			}
			if b := d.Sure(n); len(b) != 0 {
				t.Errorf("%d blocks: Sure(%d): %x", blocks, n, b)
			}
		}
	}
}

// P10.1, P10.2: the block is looked at first, then the bytes, then the power, of which somebody else needs none; and what is refused changes nothing.
func TestRefused(t *testing.T) {
	for _, off := range []bool{false, true} {
		d, want := diskOf(t, 5), wordedOf(5)
		writeBoth(t, d, want, 2, 1, 2)
		if off {
			d.Stop(0)
			want.stopAt(0)
		}
		for _, n := range append(wild, 5, 6) {
			for _, size := range []int{0, 511, 512, 513} {
				if e := d.Write(n, make([]byte, size)); e != api.ErrRange {
					t.Errorf("Write(%d) of %d bytes: %d", n, size, e)
				}
				if e := d.Tamper(n, make([]byte, size)); e != api.ErrRange {
					t.Errorf("Tamper(%d) of %d bytes: %d", n, size, e)
				}
			}
			if b, e := d.Read(n); len(b) != 0 || e != api.ErrRange {
				t.Errorf("Read(%d): %x, %d", n, b, e)
			}
		}
		for _, size := range []int{0, 1, 511, 513, 1024, 1 << 16} {
			for n := range 5 {
				if e := d.Write(n, make([]byte, size)); e != api.ErrSize {
					t.Errorf("Write(%d) of %d bytes: %d", n, size, e)
				}
				if e := d.Tamper(n, make([]byte, size)); e != api.ErrSize {
					t.Errorf("Tamper(%d) of %d bytes: %d", n, size, e)
				}
			}
		}
		want.same(t, d)
	}
}

// P10.1: a disk that is off neither writes nor flushes, however often it is asked.
func TestOffDoesNothing(t *testing.T) {
	d, want := diskOf(t, 3), wordedOf(3)
	writeBoth(t, d, want, 1, 1, 2)
	d.Stop(0)
	want.stopAt(0)
	for range 3 {
		for n := range 3 {
			if e := d.Write(n, block(9)); e != api.ErrIO {
				t.Errorf("Write(%d): %d", n, e)
			}
		}
		if e := d.Flush(); e != api.ErrIO {
			t.Errorf("Flush: %d", e)
		}
		want.same(t, d)
	}
}

// P10.2: the chapter's example.
func TestExample(t *testing.T) {
	d := diskOf(t, 4)
	write(t, d, 3, 1, 2)
	if e := d.Crash([]api.Kept{{Block: 3, Writes: 1}}); e != api.OK || !bytes.Equal(readOf(t, d, 3), block(1)) {
		t.Errorf("%d", e)
	}
}

// P10.2: all that a crash may leave of two blocks' writes, in either order; a block that it does not name has none.
func TestCrashesKeep(t *testing.T) {
	d := diskOf(t, 3)
	write(t, d, 0, 100)
	write(t, d, 1, 101)
	d.Flush()
	write(t, d, 0, 1, 2, 3)
	write(t, d, 1, 4, 5)
	write(t, d, 2, 6)
	has := [][]int{{100, 1, 2, 3}, {101, 4, 5}}
	for a := range has[0] {
		for b := range has[1] {
			keep := []api.Kept{{Block: 0, Writes: a}, {Block: 1, Writes: b}}
			for range 2 {
				slices.Reverse(keep)
				f := d.Fork()
				if e := f.Crash(keep); e != api.OK || len(f.Unsure()) != 0 {
					t.Fatalf("Crash(%v): %d, %v unsure", keep, e, f.Unsure())
				}
				for n, number := range []int{has[0][a], has[1][b]} {
					if !bytes.Equal(readOf(t, f, n), block(number)) || !bytes.Equal(f.Sure(n), block(number)) {
						t.Errorf("Crash(%v): block %d has something else", keep, n)
					}
				}
				if !bytes.Equal(readOf(t, f, 2), make([]byte, 512)) {
					t.Errorf("Crash(%v): block 2 is not named, and has a write", keep)
				}
			}
		}
	}
}

// P10.2: what may not be kept; nothing is done then, whatever else is said ahead of it and behind it.
func TestCrashesRefused(t *testing.T) {
	d, want := diskOf(t, 4), wordedOf(4)
	writeBoth(t, d, want, 1, 1, 2)
	writeBoth(t, d, want, 3, 3)
	var wrong [][]api.Kept
	for _, n := range append(wild, 4, 5) {
		wrong = append(wrong, []api.Kept{{Block: n}}, []api.Kept{{Block: n, Writes: 1}})
	}
	for _, writes := range []int{math.MinInt, -2, -1, 3, 4, 1 << 32, math.MaxInt} {
		wrong = append(wrong, []api.Kept{{Block: 1, Writes: writes}}, []api.Kept{{Block: 0, Writes: writes}})
	}
	wrong = append(wrong,
		[]api.Kept{{Block: 0, Writes: 1}}, []api.Kept{{Block: 3, Writes: 2}},
		[]api.Kept{{Block: 1, Writes: 1}, {Block: 1, Writes: 1}},
		[]api.Kept{{Block: 1, Writes: 1}, {Block: 1, Writes: 2}},
		[]api.Kept{{Block: 1}, {Block: 1}},
		[]api.Kept{{Block: 2}, {Block: 1}, {Block: 2}})
	for _, off := range []bool{false, true} {
		if off {
			d.Stop(0)
			want.stopAt(0)
		}
		for _, keep := range wrong {
			for _, more := range [][]api.Kept{keep, append([]api.Kept{{Block: 3, Writes: 1}}, keep...), append(slices.Clone(keep), api.Kept{Block: 3, Writes: 1})} {
				if e := d.Crash(more); e != api.ErrArg {
					t.Errorf("Crash(%v): %d", more, e)
				}
				want.same(t, d)
			}
		}
	}
}

// P10.2: blocks without unsure writes may be named, with none; no names at all are right too.
func TestCrashesOfNothing(t *testing.T) {
	for _, keep := range [][]api.Kept{nil, {}, {{Block: 0}}, {{Block: 2}, {Block: 0}, {Block: 1}}} {
		d, want := diskOf(t, 3), wordedOf(3)
		write(t, d, 1, 1)
		if e := d.Crash(keep); e != api.OK {
			t.Errorf("Crash(%v): %d", keep, e)
		}
		want.same(t, d)
	}
}

// P10.2: a crash turns the disk on, and there is no Stop any more, whether it was off or was still to be.
func TestCrashTurnsOn(t *testing.T) {
	for _, stop := range []int{0, 1, 2, 3, 10} {
		d := diskOf(t, 2)
		d.Stop(stop)
		for range min(stop, 2) {
			write(t, d, 0, 1)
		}
		if d.Off() != (stop <= 2) {
			t.Errorf("Stop(%d): off %v behind %d", stop, d.Off(), min(stop, 2))
		}
		if e := d.Crash(nil); e != api.OK || d.Off() {
			t.Errorf("Stop(%d), Crash: %d, off %v", stop, e, d.Off())
		}
		for range 50 {
			write(t, d, 1, 2)
			if e := d.Flush(); e != api.OK {
				t.Fatalf("Stop(%d) ahead of a crash: Flush: %d", stop, e)
			}
		}
	}
}

// P10.2: a block that somebody rewrote has no unsure writes, and a crash leaves it; the others are as they were. It is none of the calls that Stop counts.
func TestTamper(t *testing.T) {
	for _, stop := range []int{-1, 2, 0} {
		d, want := diskOf(t, 3), wordedOf(3)
		writeBoth(t, d, want, 0, 1)
		writeBoth(t, d, want, 1, 2, 3)
		d.Stop(stop)
		want.stopAt(stop)
		for range 3 {
			if e := d.Tamper(1, block(4)); e != api.OK {
				t.Errorf("Stop(%d), Tamper: %d", stop, e)
			}
			want.tamper(1, block(4))
			want.same(t, d)
		}
		if e := d.Crash([]api.Kept{{Block: 1, Writes: 1}}); e != api.ErrArg {
			t.Errorf("a write of a block that was rewritten is kept: %d", e)
		}
		if e := d.Crash(nil); e != api.OK || !bytes.Equal(readOf(t, d, 1), block(4)) || !bytes.Equal(readOf(t, d, 0), make([]byte, 512)) {
			t.Errorf("Stop(%d), Tamper, Crash: %d", stop, e)
		}
		write(t, d, 1, 5)
		if !bytes.Equal(readOf(t, d, 1), block(5)) || !bytes.Equal(d.Sure(1), block(4)) {
			t.Error("a write behind it")
		}
	}
}

// P10.3: the disk is off right behind the last of the calls; reads, refused calls and other things are none of them.
func TestStop(t *testing.T) {
	for n := range 8 {
		for kind, call := range map[string]func(d *Disk) api.Errno{
			"Write": func(d *Disk) api.Errno { return d.Write(1, block(1)) },
			"Flush": (*Disk).Flush,
		} {
			d := diskOf(t, 2)
			d.Stop(n)
			for i := range n {
				d.Read(0)
				d.Read(9)
				d.Write(9, block(1))
				d.Write(0, nil)
				d.Tamper(0, block(2))
				d.Crash([]api.Kept{{Block: 9}})
				d.Fork().Flush()
				d.Unsure()
				d.Sure(1)
				if e := call(d); e != api.OK || d.Off() != (i == n-1) {
					t.Fatalf("Stop(%d): %s %d: %d, off %v", n, kind, i, e, d.Off())
				}
			}
			if e := call(d); e != api.ErrIO || !d.Off() {
				t.Fatalf("Stop(%d): a %s more: %d, off %v", n, kind, e, d.Off())
			}
		}
	}
}

// P10.3: the last call's write is done like the others: it may be kept, and a last flush makes all sure.
func TestLastCallIsDone(t *testing.T) {
	d := diskOf(t, 2)
	d.Stop(2)
	write(t, d, 0, 1, 2)
	if e := d.Crash([]api.Kept{{Block: 0, Writes: 2}}); e != api.OK || !bytes.Equal(readOf(t, d, 0), block(2)) {
		t.Errorf("the last write is lost: %d", e)
	}
	d.Stop(2)
	write(t, d, 1, 3)
	if e := d.Flush(); e != api.OK || !d.Off() || !bytes.Equal(d.Sure(1), block(3)) || len(d.Unsure()) != 0 {
		t.Errorf("the last flush: %d, off %v", e, d.Off())
	}
}

// P10.3: the last Stop holds; below 0 the power stays; of a disk that is off nothing changes.
func TestStopAnew(t *testing.T) {
	for _, n := range []int{-1, -2, math.MinInt, math.MaxInt} {
		d := diskOf(t, 1)
		d.Stop(3)
		write(t, d, 0, 1, 2)
		d.Stop(n)
		for range 1000 {
			write(t, d, 0, 1)
			d.Flush()
		}
		if d.Off() {
			t.Errorf("Stop(%d): off", n)
		}
	}
	d := diskOf(t, 1)
	d.Stop(1)
	d.Stop(3)
	write(t, d, 0, 1, 2)
	d.Stop(2)
	write(t, d, 0, 1, 2)
	if !d.Off() {
		t.Error("a Stop ahead of the last one holds")
	}
	for _, n := range []int{-1, 0, 1, 5, math.MaxInt, math.MinInt} {
		d.Stop(n)
		if e := d.Write(0, block(3)); e != api.ErrIO || !d.Off() {
			t.Errorf("Stop(%d) of a disk that is off: %d, off %v", n, e, d.Off())
		}
	}
	if e := d.Crash(nil); e != api.OK || d.Off() {
		t.Errorf("behind a crash: %d", e)
	}
	write(t, d, 0, 1, 2, 3, 4, 5, 6)
}

// P10.3: rising, whatever was written first, of many blocks too.
func TestUnsureIsRising(t *testing.T) {
	d := diskOf(t, 4096)
	var want []api.Kept
	for i := range 4096 {
		n := i * 1237 % 4096
		write(t, d, n, n)
		if n%3 == 0 {
			write(t, d, n, n+1)
		}
		want = append(want, api.Kept{Block: i, Writes: 1})
		if i%3 == 0 {
			want[i].Writes = 2
		}
	}
	if got := d.Unsure(); !slices.Equal(got, want) {
		t.Errorf("%v", got)
	}
	d.Flush()
	if got := d.Unsure(); len(got) != 0 {
		t.Errorf("behind a flush: %v", got)
	}
}

// P10.3: a fork is the same at first, its power too, and goes on by itself.
func TestFork(t *testing.T) {
	d, want := diskOf(t, 3), wordedOf(3)
	writeBoth(t, d, want, 0, 1, 2)
	writeBoth(t, d, want, 1, 3)
	d.Stop(2)
	want.stopAt(2)
	f, other := d.Fork(), want.fork()
	if f == d {
		t.Fatal("a fork is the first itself")
	}
	other.same(t, f)
	writeBoth(t, d, want, 0, 4)
	writeBoth(t, f, other, 0, 5)
	d.Tamper(2, block(6))
	want.tamper(2, block(6))
	f.Flush()
	other.flush()
	want.same(t, d)
	other.same(t, f)
	if !f.Off() || d.Off() || !f.Fork().Off() {
		t.Errorf("off: the fork %v, the first %v", f.Off(), d.Off())
	}
	f.Crash(nil)
	other.crash(nil)
	want.same(t, d)
	other.same(t, f)
}

// P10.3
func TestNilDisk(t *testing.T) {
	var d *Disk
	for _, n := range append(wild, 0, 1) {
		for _, size := range []int{0, 512} {
			if e, f := d.Write(n, make([]byte, size)), d.Tamper(n, make([]byte, size)); e != api.ErrClosed || f != api.ErrClosed {
				t.Errorf("Write, Tamper(%d): %d, %d", n, e, f)
			}
		}
		if b, e := d.Read(n); len(b) != 0 || e != api.ErrClosed || len(d.Sure(n)) != 0 {
			t.Errorf("Read(%d): %x, %d; Sure %x", n, b, e, d.Sure(n))
		}
		if e := d.Crash([]api.Kept{{Block: n}, {Block: n}}); e != api.ErrClosed {
			t.Errorf("Crash: %d", e)
		}
		d.Stop(n)
	}
	if e, f := d.Flush(), d.Crash(nil); e != api.ErrClosed || f != api.ErrClosed {
		t.Errorf("Flush, Crash: %d, %d", e, f)
	}
	if d.Off() || d.Len() != 0 || len(d.Unsure()) != 0 || d.Fork() != nil {
		t.Errorf("%v, %d, %v, %v", d.Off(), d.Len(), d.Unsure(), d.Fork())
	}
}

// P10.4: behind a flush a crash changes nothing. Without one each block has what was sure, or one of its unsure writes.
func TestCrashes(t *testing.T) {
	source := sample.Source(2)
	d := diskOf(t, 6)
	sure := slices.Repeat([][]byte{make([]byte, 512)}, 6)
	for range 300 {
		may := make([][][]byte, 6)
		for range source.Below(15) {
			n, b := source.Below(6), source.Bytes(512)
			may[n] = append(may[n], b)
			if e := d.Write(n, b); e != api.OK {
				t.Fatalf("Write: %d", e)
			}
		}
		flushed := source.Below(2) == 0
		if flushed {
			d.Flush()
		}
		var keep []api.Kept
		for _, k := range d.Unsure() {
			keep = append(keep, api.Kept{Block: k.Block, Writes: source.Below(k.Writes + 1)})
		}
		ahead := d.Fork()
		if e := d.Crash(keep); e != api.OK {
			t.Fatalf("Crash(%v): %d", keep, e)
		}
		for n := range 6 {
			got := readOf(t, d, n)
			if flushed && !bytes.Equal(got, readOf(t, ahead, n)) {
				t.Fatalf("block %d: a crash behind a flush has changed it", n)
			}
			known := func(b []byte) bool { return bytes.Equal(b, got) }
			if !slices.ContainsFunc(append(may[n], sure[n]), known) {
				t.Fatalf("block %d has what nobody wrote", n)
			}
			sure[n] = got
		}
	}
}

// R3: what is handed in is neither changed nor kept, nor is the room behind its end.
func TestArgumentsAreLeftAlone(t *testing.T) {
	room := sample.Bytes(600)
	d := diskOf(t, 3)
	d.Write(0, room[:512])
	d.Tamper(1, room[:512])
	keep := []api.Kept{{Block: 2}, {Block: 0, Writes: 1}, {Block: 7, Writes: 7}}
	f := d.Fork()
	if e := f.Crash(keep[:2]); e != api.OK || !slices.Equal(keep, []api.Kept{{Block: 2}, {Block: 0, Writes: 1}, {Block: 7, Writes: 7}}) {
		t.Errorf("Crash: %d, %v", e, keep)
	}
	if !bytes.Equal(room, sample.Bytes(600)) {
		t.Error("they have changed")
	}
	clear(room)
	for n := range 2 {
		if !bytes.Equal(readOf(t, d, n), sample.Bytes(512)) || !bytes.Equal(readOf(t, f, n), sample.Bytes(512)) {
			t.Errorf("block %d hangs on the caller's bytes", n)
		}
	}
}

// R3: answers are new memory: who changes them changes no disk, not even the zeros of another block.
func TestAnswersAreNew(t *testing.T) {
	d, want := diskOf(t, 3), wordedOf(3)
	writeBoth(t, d, want, 1, 1, 2)
	f := d.Fork()
	for n := range 3 {
		for name, ask := range map[string]func() []byte{
			"Read":        func() []byte { return readOf(t, d, n) },
			"Sure":        func() []byte { return d.Sure(n) },
			"a fork's":    func() []byte { return readOf(t, f, n) },
			"a new one's": func() []byte { return readOf(t, diskOf(t, 3), n) },
		} {
			if fault := sample.NotNew(ask); fault != "" {
				t.Errorf("%s block %d: %s", name, n, fault)
			}
		}
	}
	list := d.Unsure()
	clear(list[:cap(list)])
	want.same(t, d)
	want.same(t, f)
}

// R4: many may look at one disk, and work on forks of it.
func TestManyAtOnce(t *testing.T) {
	d := diskOf(t, 4)
	write(t, d, 2, 1, 2)
	answers := make(chan bool)
	for i := range 8 {
		go func() {
			f := d.Fork()
			for j := range 20 {
				f.Write(j%4, block(i))
				f.Flush()
				f.Crash(nil)
			}
			b, e := d.Read(2)
			answers <- e == api.OK && bytes.Equal(b, block(2)) && len(d.Unsure()) == 1 && bytes.Equal(f.Sure(2), block(i))
		}()
	}
	for range 8 {
		if !<-answers {
			t.Error("beside others something else is answered")
		}
	}
}
