package sector

import (
	"bytes"
	"math"
	"slices"
	"testing"

	"casket/api"
	"casket/cache"
	"casket/disk"
	"casket/sample"
	"casket/seal"
)

// wild are numbers that no sector has, and no block.
var wild = []int{math.MinInt, math.MinInt + 1, math.MinInt32, -1 << 32, -1<<32 + 5, -9, -8, -1, 1 << 16, 1<<31 - 1, 1 << 32, 1<<32 + 5, math.MaxInt - 7, math.MaxInt}

// sizes are of sectors, at the edges of blocks of tags, nodes and levels, and between them.
var sizes = []int{1, 2, 7, 8, 9, 20, 100, 127, 128, 129, 257, 300, 1023, 1024}

// wrongRings are rings that may not be.
func wrongRings() [][]api.EpochKeys {
	return [][]api.EpochKeys{
		nil, {}, ringOf(1, 2, 3), ringOf(1, 2, 3, 4),
		ringOf(0), ringOf(-1), ringOf(1 << 32), ringOf(1<<32 + 1), ringOf(math.MinInt), ringOf(math.MaxInt),
		ringOf(1, 1), ringOf(2, 1), ringOf(1, 3), ringOf(0, 1), ringOf(-1, 0), ringOf(1, 0),
		ringOf(1<<32-1, 1<<32), ringOf(1<<32-1, 0), ringOf(1<<32, 1<<32+1), ringOf(math.MaxInt, math.MinInt), ringOf(1, 1<<32+2),
	}
}

// wrongHeads are headers that may not be.
func wrongHeads() []api.Head {
	return sample.WrongHeads(headOf(20, 4, 20))
}

// P19.2: the chapter's example.
func TestExample(t *testing.T) {
	v := newVolume(t, 100, 4, 16)
	v.doClean()
	v.doWrite(3, sample.Bytes(512))
	want := []int{v.l.Root, v.l.Tree, v.l.Tags, v.l.Data + 3}
	if got := v.c.Dirty(); !slices.Equal(got, want) || v.c.Used() != 6 {
		t.Errorf("dirty %d, not %d; used %d", got, want, v.c.Used())
	}
	v.right("Write")
}

// P19.1: the root and the ring are what was found and handed in.
func TestNew(t *testing.T) {
	for _, sectors := range sizes {
		newVolume(t, sectors, 6, 16).right("New")
	}
	for _, epoch := range []int{1, 2, 1 << 31, 1<<32 - 2, 1<<32 - 1} {
		v := newVolume(t, 20, 4, 16)
		v.words.ring = ringOf(epoch)
		v.open()
		v.doWrite(4, sample.Bytes(512))
		v.right("one epoch")
		if epoch < 1<<32-1 {
			v.begin()
			v.doMove()
			v.open()
			v.right("two epochs")
		}
	}
}

// P19.1: what may not be, ahead of reading.
func TestNewOfWrongArguments(t *testing.T) {
	v := newVolume(t, 20, 4, 20)
	v.stop(0)
	refused := func(what string, c *cache.Cache, h api.Head, ring []api.EpochKeys) {
		t.Helper()
		if s, e := New(c, h, rootKey, ring); s != nil || e != api.ErrArg {
			t.Errorf("%s: %d", what, e)
		}
	}
	refused("no cache", nil, v.h, v.words.ring)
	for _, h := range wrongHeads() {
		refused("a header", v.c, h, v.words.ring)
	}
	for _, ring := range wrongRings() {
		refused("a ring", v.c, v.h, ring)
	}
	v.same("refused")
}

// P19.1: what reading the root's block refuses.
func TestNewWhereReadingIsRefused(t *testing.T) {
	v := newVolume(t, 20, 4, 20)
	asks := func(what string, c *cache.Cache, ring []api.EpochKeys, want api.Errno) {
		t.Helper()
		if s, e := New(c, v.h, rootKey, ring); e != want || (s == nil) != (e != api.OK) {
			t.Errorf("%s: %d, not %d", what, e, want)
		}
	}
	v.stop(0)
	asks("off", v.c, ringOf(1), api.ErrIO)
	asks("off, of another ring", v.c, ringOf(1, 2), api.ErrIO)
	v.crash(nil)
	asks("on again", v.c, ringOf(1), api.OK)
	v.stop(0)
	v.c.Flush()
	v.crash(nil)
	asks("a cache of no more use", v.c, ringOf(1), api.ErrIO)
}

// P19.1: a root's block that is none under the key and the header, and one that tells of another ring.
func TestNewWhereTheRootIsWrong(t *testing.T) {
	v := newVolume(t, 20, 4, 20)
	asks := func(what string, h api.Head, key [32]byte, ring []api.EpochKeys, want api.Errno) {
		t.Helper()
		c := v.openCache(v.d)
		if s, e := New(c, h, key, ring); e != want || (s == nil) != (e != api.OK) {
			t.Errorf("%s: %d, not %d", what, e, want)
		}
	}
	asks("as it is", v.h, rootKey, ringOf(1), api.OK)
	v.d.Tamper(v.l.Root, make([]byte, 512))
	asks("zeros", v.h, rootKey, ringOf(1), api.ErrIntegrity)
	v.d.Tamper(v.l.Root, v.blocks[v.l.Root])
	asks("another epoch", v.h, rootKey, ringOf(9), api.OK)
	asks("no rekey, two epochs", v.h, rootKey, ringOf(1, 2), api.ErrIntegrity)
	for bit := range 256 {
		key := rootKey
		key[bit/8] ^= 1 << (bit % 8)
		asks("another key", v.h, key, ringOf(1), api.ErrIntegrity)
	}
	h := v.h
	h.Name[3]++
	asks("another name", h, rootKey, ringOf(1), api.ErrIntegrity)
	h = v.h
	h.Sectors++
	asks("other sectors", h, rootKey, ringOf(1), api.ErrIntegrity)
	right := v.blocks[v.l.Root]
	for bit := range 4096 {
		b := bytes.Clone(right)
		b[bit/8] ^= 1 << (bit % 8)
		v.d.Tamper(v.l.Root, b)
		asks("a bit", v.h, rootKey, ringOf(1), api.ErrIntegrity)
	}
	for _, frontier := range []int{0, 4, 20} {
		b, _ := seal.RootBlock(rootKey, v.h, api.Root{Rekeying: true, Frontier: frontier, Tree: v.root.Tree})
		v.d.Tamper(v.l.Root, b)
		asks("a rekey", v.h, rootKey, ringOf(1, 2), api.OK)
		asks("a rekey, one epoch", v.h, rootKey, ringOf(1), api.ErrIntegrity)
		asks("a rekey, the other epoch", v.h, rootKey, ringOf(2), api.ErrIntegrity)
	}
}

// P19.1: the root's block as a journal left it, which is not home yet.
func TestNewOfADirtyRoot(t *testing.T) {
	source := sample.Source(1)
	v := newVolume(t, 20, 4, 40)
	v.fill(&source, 1, 2, 3)
	v.open()
	if v.root.Counter != 3 || !slices.Contains(v.c.Dirty(), v.l.Root) {
		t.Errorf("%+v, dirty %d", v.root, v.c.Dirty())
	}
	v.right("opened anew")
}

// P19.2, P19.5: what was written last is read, or zeros; each change is one transaction of the chapter's blocks.
func TestReadAndWrite(t *testing.T) {
	for _, sectors := range sizes {
		source := sample.Source(100 + sectors)
		v := newVolume(t, sectors, 1+source.Below(6), 16+source.Below(20))
		v.right("at first")
		for step := range 50 {
			n := source.Below(sectors)
			b := source.Bytes(512)
			switch source.Below(8) {
			case 0:
				b = v.read(n) // the same again
			case 1:
				b = make([]byte, 512)
			case 2:
				n = sectors - 1
			}
			v.doWrite(n, b)
			v.reads("behind Write", n)
			switch source.Below(12) {
			case 0:
				v.doFlush()
			case 1:
				v.doClean()
			case 2:
				v.open()
			}
			if step%25 == 24 {
				v.right("behind some")
			}
		}
	}
}

// P19.2: each sector of a volume with all its blocks of tags filled.
func TestAllSectors(t *testing.T) {
	source := sample.Source(2)
	v := newVolume(t, 137, 16, 64)
	for n := range 137 {
		v.fill(&source, n)
	}
	v.right("all")
	v.open()
	v.right("opened anew")
}

// P19.2: a sector of zeros that was written is sealed like any other.
func TestZerosAreWritten(t *testing.T) {
	v := newVolume(t, 20, 4, 20)
	v.doWrite(5, make([]byte, 512))
	v.right("zeros")
	if b, _ := v.c.Read(v.l.Data + 5); bytes.Equal(b, make([]byte, 512)) {
		t.Error("they lie there as they are")
	}
}

// P19.2: numbers that no sector has, ahead of all else; then bytes of another length.
func TestNoSuchSector(t *testing.T) {
	source := sample.Source(3)
	for _, sectors := range sizes {
		v := newVolume(t, sectors, 4, 20)
		v.fill(&source, 0)
		look := func(what string) {
			t.Helper()
			for _, n := range append([]int{sectors, sectors + 1}, wild...) {
				v.readsNot(what, n, api.ErrRange)
				v.refused(what, v.s.Write(n, sample.Bytes(512)), api.ErrRange)
				v.refused(what, v.s.Write(n, nil), api.ErrRange)
			}
			for _, size := range []int{0, 1, 511, 513, 1024} {
				v.refused(what, v.s.Write(0, sample.Bytes(size)), api.ErrSize)
				v.refused(what, v.s.Write(sectors-1, sample.Bytes(size)), api.ErrSize)
			}
		}
		look("no such sector")
		v.right("refused")
		v.doClean()
		v.tamper(v.l.Tags, sample.Bytes(512))
		look("tags that are wrong")
		v.stop(0)
		look("off")
	}
}

// P19.2: each bit of a sector's block: it is refused, and the others read on. Written anew, it is right.
func TestEachBitOfASector(t *testing.T) {
	source := sample.Source(4)
	v := newVolume(t, 20, 4, 20)
	v.fill(&source, 4, 5, 6)
	v.doClean()
	right := v.blocks[v.l.Data+5]
	for bit := range 4096 {
		b := bytes.Clone(right)
		b[bit/8] ^= 1 << (bit % 8)
		v.d.Tamper(v.l.Data+5, b)
		v.readsNot("a bit", 5, api.ErrIntegrity)
	}
	v.tamper(v.l.Data+5, sample.Bytes(512))
	for n := range 20 {
		if n != 5 {
			v.reads("another one", n)
		}
	}
	v.readsNot("other bytes", 5, api.ErrIntegrity)
	v.fill(&source, 4)
	v.readsNot("a neighbour was written", 5, api.ErrIntegrity)
	v.fill(&source, 5)
	v.right("written anew")
}

// P19.2: what lies in the block of a sector that was never written is of no matter.
func TestBlockOfANeverWrittenSector(t *testing.T) {
	source := sample.Source(5)
	v := newVolume(t, 20, 4, 20)
	v.fill(&source, 4, 6)
	v.doClean()
	v.tamper(v.l.Data+5, source.Bytes(512))
	for n := range 20 {
		v.reads("somebody wrote it", n)
	}
	v.fill(&source, 5)
	v.right("written")
}

// P19.2: each bit of a block of tags, and of the nodes above it: all sectors below it are refused, read or written, and no other one.
func TestTagsAndNodesAreTurned(t *testing.T) {
	source := sample.Source(6)
	for _, sectors := range []int{20, 300} {
		v := newVolume(t, sectors, 4, 20)
		v.fill(&source, 0, 3, 8, 17, sectors-1)
		v.doClean()
		below := func(n, block int) bool {
			return block == v.l.Tags+n/8 || block == v.l.Tree+n/128 || len(v.l.Levels) == 2 && block == v.l.Tree+v.l.Levels[0]
		}
		for block := v.l.Tree; block < v.l.Data; block++ {
			for range 3 {
				b := bytes.Clone(v.blocks[block])
				b[source.Below(512)] ^= 1 << source.Below(8)
				v.tamper(block, b)
				for _, n := range []int{0, 1, 7, 8, 9, 15, 16, 17, sectors - 2, sectors - 1} {
					if !below(n, block) {
						v.reads("not below it", n)
						continue
					}
					v.readsNot("below it", n, api.ErrIntegrity)
					v.refused("below it", v.s.Write(n, sample.Bytes(512)), api.ErrIntegrity)
				}
			}
			v.tamper(block, v.blocks[block])
		}
		v.right("turned back")
	}
	v := newVolume(t, 20, 4, 20)
	v.fill(&source, 3)
	v.doClean()
	for _, block := range []int{v.l.Tags, v.l.Tree} {
		for bit := range 4096 {
			b := bytes.Clone(v.blocks[block])
			b[bit/8] ^= 1 << (bit % 8)
			v.d.Tamper(block, b)
			v.readsNot("each bit", 3, api.ErrIntegrity)
		}
		v.d.Tamper(block, v.blocks[block])
	}
}

// P19.2: elder blocks of a sector, its tags, the tree: none of them is taken for what was written last.
func TestElderBlocks(t *testing.T) {
	source := sample.Source(7)
	v := newVolume(t, 20, 4, 20)
	v.fill(&source, 5, 6)
	v.doClean()
	elder := v.fork()
	v.fill(&source, 5)
	v.doClean()
	v.tamper(v.l.Data+5, elder.blocks[v.l.Data+5])
	v.readsNot("an elder sector", 5, api.ErrIntegrity)
	v.reads("another one", 6)
	v.tamper(v.l.Tags, elder.blocks[v.l.Tags])
	v.readsNot("elder tags too", 5, api.ErrIntegrity)
	v.readsNot("elder tags too", 6, api.ErrIntegrity)
	v.reads("other tags", 8)
	v.tamper(v.l.Tree, elder.blocks[v.l.Tree])
	for n := range 20 {
		v.readsNot("an elder tree", n, api.ErrIntegrity)
	}
	// With the elder root all is as it was once, which nobody can tell.
	v.tamper(v.l.Root, elder.blocks[v.l.Root])
	v.words = elder
	v.open()
	v.right("an elder root")
}

// P19.2: sectors that stand at each other's places, and another volume's.
func TestMovedBlocks(t *testing.T) {
	source := sample.Source(8)
	v := newVolume(t, 40, 4, 20)
	v.fill(&source, 3, 4, 11)
	v.doClean()
	for _, x := range [][2]int{{3, 4}, {3, 11}, {4, 3}, {11, 3}} {
		v.tamper(v.l.Data+x[0], v.blocks[v.l.Data+x[1]])
		v.readsNot("another sector's block", x[0], api.ErrIntegrity)
		v.reads("the other sector", x[1])
		v.tamper(v.l.Data+x[0], v.blocks[v.l.Data+x[0]])
	}
	v.tamper(v.l.Tags, v.blocks[v.l.Tags+1])
	v.tamper(v.l.Tags+1, v.blocks[v.l.Tags])
	for n := range 16 {
		v.readsNot("tags at each other's places", n, api.ErrIntegrity)
	}
	v.reads("other tags", 16)
}

// P19.2: records that are right by the tree and wrong by themselves.
func TestWrongRecords(t *testing.T) {
	source := sample.Source(9)
	base := newVolume(t, 20, 4, 20)
	base.fill(&source, 4, 5, 6)
	base.begin()
	base.doMove()
	right := [64]byte(base.blocks[base.l.Tags][64*5:])
	if got := [4]byte(right[:]); got != [4]byte{1} {
		t.Fatalf("epoch %v", got)
	}
	look := func(what string, change func(record *[64]byte)) {
		t.Helper()
		v := &volume{t: t, words: base.fork()}
		record := right
		change(&record)
		v.record(map[int][]byte{}, 5, record)
		v.finish(map[int][]byte{})
		v.lay()
		v.readsNot(what, 5, api.ErrIntegrity)
		v.reads(what, 4)
		v.reads(what, 6)
		v.reads(what, 7)
		v.refused(what, v.s.Move(), api.ErrIntegrity)
		v.fill(&source, 5)
		v.doMove()
		v.right(what + ", written anew")
	}
	look("no epoch", func(record *[64]byte) { record[0] = 0 })
	look("no epoch, a last byte", func(record *[64]byte) { *record = [64]byte{63: 1} })
	look("an elder epoch", func(record *[64]byte) { *record = recordUnder(base, 5, 0) })
	look("a later epoch", func(record *[64]byte) { *record = recordUnder(base, 5, 3) })
	look("the other epoch", func(record *[64]byte) { record[0] = 2 })
	look("another sector's", func(record *[64]byte) { *record = [64]byte(base.blocks[base.l.Tags][64*4:]) })
	for bit := 32; bit < 512; bit += 1 + source.Below(30) {
		look("a bit", func(record *[64]byte) { record[bit/8] ^= 1 << (bit % 8) })
	}
}

// recordUnder is a sector's record with another epoch's tag, of the bytes that lie there.
func recordUnder(v *volume, n, epoch int) [64]byte {
	k := keysOf(max(epoch, 1))
	_, record, _ := seal.Seal(k, n, v.read(n))
	record[0] = byte(epoch)
	return record
}

// P19.2: the record says under which of the ring's keys a sector lies, whatever the frontier.
func TestReadIsByTheRecord(t *testing.T) {
	source := sample.Source(10)
	v := newVolume(t, 20, 4, 20)
	v.fill(&source, 3, 12)
	v.begin()
	v.doMove()
	for n, epoch := range map[int]int{2: 1, 3: 1, 13: 2, 12: 2} {
		v.seal(map[int][]byte{}, n, source.Bytes(512), keysOf(epoch))
	}
	v.finish(map[int][]byte{})
	v.lay()
	v.right("an epoch on the other side of the frontier")
	for range 4 {
		v.doMove()
	}
	v.right("behind the last Move")
}

// P19.2: a disk that ends ahead of a sector's block, of its tags, of a node.
func TestShortDisks(t *testing.T) {
	source := sample.Source(11)
	v := newVolume(t, 20, 4, 20)
	v.fill(&source, 18)
	v.doClean()
	for length := v.l.Tree; length < v.l.Blocks; length++ {
		d, _ := disk.New(length)
		for n := range length {
			d.Tamper(n, v.d.Sure(n))
		}
		c := v.openCache(d)
		s, e := New(c, v.h, rootKey, v.words.ring)
		if e != api.OK {
			t.Fatal("New", e)
		}
		want := [2]api.Errno{api.ErrRange, api.ErrArg} // of Read, of Write
		if length <= v.l.Tags+2 {
			want[1] = api.ErrRange // the tags, or the node, are not even read
		} else if length > v.l.Data+18 {
			want = [2]api.Errno{api.OK, api.OK}
		}
		b, e := s.Read(18)
		if e != want[0] || e == api.OK && !bytes.Equal(b, v.read(18)) || e != api.OK && len(b) != 0 {
			t.Errorf("%d blocks: Read: %d, not %d", length, e, want[0])
		}
		if b, e := s.Read(17); length > v.l.Tags+2 && (e != api.OK || !bytes.Equal(b, make([]byte, 512))) {
			t.Errorf("%d blocks: Read of one that was never written: %d", length, e)
		}
		root := s.Root()
		if e := s.Write(18, sample.Bytes(512)); e != want[1] || (s.Root() == root) != (e != api.OK) {
			t.Errorf("%d blocks: Write: %d, not %d", length, e, want[1])
		}
	}
}

// P19.2, P19.4: a disk that does not answer: ErrIO of each call but Root and Ring, till it is opened anew.
func TestOff(t *testing.T) {
	source := sample.Source(12)
	v := newVolume(t, 20, 4, 20)
	v.fill(&source, 3)
	v.begin()
	v.doMove()
	v.doClean()
	look := func(what string) {
		t.Helper()
		v.readsNot(what, 3, api.ErrIO)
		v.readsNot(what+", never written", 19, api.ErrIO)
		v.refused(what, v.s.Write(3, sample.Bytes(512)), api.ErrIO)
		v.refused(what, v.s.Change(true, ringOf(1, 2), nil), api.ErrIO)
		v.refused(what, v.s.Flush(), api.ErrIO)
		v.refused(what, v.s.Clean(), api.ErrIO)
		v.refused(what, v.s.Move(), api.ErrIO)
		// What is named ahead.
		v.readsNot(what, 20, api.ErrRange)
		v.refused(what, v.s.Write(-1, sample.Bytes(512)), api.ErrRange)
		v.refused(what, v.s.Write(3, sample.Bytes(511)), api.ErrSize)
		v.refused(what, v.s.Change(false, ringOf(1, 2), nil), api.ErrArg)
	}
	v.stop(0)
	look("off")
	v.crash(nil)
	look("of no more use")
	v.open()
	v.right("opened anew")
	for range 4 {
		v.doMove()
	}
	v.refused("the frontier is at the end", v.s.Move(), api.ErrNone)
	v.stop(0)
	v.refused("the frontier is at the end, off", v.s.Move(), api.ErrNone)
	v.crash(nil)
	v.end()
	v.stop(0)
	v.refused("no rekey, off", v.s.Move(), api.ErrNone)
}

// P19.2: the power goes in each step of a Write: it is refused, and the store is as it was.
func TestWriteIsCutOff(t *testing.T) {
	for stop := 0; ; stop++ {
		source := sample.Source(13)
		v := newVolume(t, 20, 4, 16)
		v.fill(&source, 3, 4) // the journal has no room for a third one
		b := source.Bytes(512)
		v.stop(stop)
		e := v.s.Write(3, b)
		if stop >= 9+7 { // of a Checkpoint, of the transaction
			v.done("Write", e, v.write(3, b))
			break
		}
		if e != api.ErrIO || v.s.Root() != v.root || !slices.Equal(v.s.Ring(), v.words.ring) {
			t.Errorf("behind %d steps: %d, %+v", stop, e, v.s.Root())
		}
		v.readsNot("cut off", 3, api.ErrIO)
		v.d.Crash(nil)
		v.s, e = New(v.openCache(v.d), v.h, rootKey, v.words.ring)
		if e != api.OK || v.s.Root().Counter != 2 && v.s.Root().Counter != 1 {
			t.Fatalf("behind %d steps, opened anew: %d, %+v", stop, e, v.s.Root())
		}
	}
}

// P19.4: Flush and Clean are the cache's.
func TestFlushAndClean(t *testing.T) {
	source := sample.Source(14)
	v := newVolume(t, 20, 4, 40)
	v.fill(&source, 3)
	if len(v.d.Unsure()) == 0 {
		t.Error("a Write is sure")
	}
	v.doFlush()
	if len(v.d.Unsure()) != 0 || v.c.Used() != 6 {
		t.Errorf("unsure %v, used %d", v.d.Unsure(), v.c.Used())
	}
	v.fill(&source, 3)
	v.doClean()
	if len(v.d.Unsure()) != 0 || v.c.Used() != 0 || len(v.c.Dirty()) != 0 {
		t.Errorf("unsure %v, used %d, dirty %d", v.d.Unsure(), v.c.Used(), v.c.Dirty())
	}
	for n := v.l.Journal + 1; n < v.l.Tree; n++ {
		if !bytes.Equal(v.d.Sure(n), make([]byte, 512)) {
			t.Errorf("block %d of the journal is not zeros", n)
		}
	}
	v.right("Clean")
}

// P19.4: of a nil Store.
func TestNilStore(t *testing.T) {
	var s *Store
	for _, n := range append([]int{0, 1, 1023, 1024}, wild...) {
		if b, e := s.Read(n); len(b) != 0 || e != api.ErrClosed {
			t.Errorf("Read(%d): %d", n, e)
		}
		for _, size := range []int{0, 511, 512} {
			if e := s.Write(n, make([]byte, size)); e != api.ErrClosed {
				t.Errorf("Write(%d) of %d bytes: %d", n, size, e)
			}
		}
	}
	for _, ring := range append(wrongRings(), ringOf(1), ringOf(1, 2)) {
		for _, rekeying := range []bool{false, true} {
			if e := s.Change(rekeying, ring, nil); e != api.ErrClosed {
				t.Errorf("Change(%t, %v): %d", rekeying, ring, e)
			}
		}
	}
	if e, f, g := s.Move(), s.Flush(), s.Clean(); e != api.ErrClosed || f != api.ErrClosed || g != api.ErrClosed {
		t.Errorf("Move %d, Flush %d, Clean %d", e, f, g)
	}
	if s.Root() != (api.Root{}) || len(s.Ring()) != 0 {
		t.Errorf("%+v, %v", s.Root(), s.Ring())
	}
}

// R3: what is handed in is left alone, and not kept.
func TestArgumentsAreLeftAlone(t *testing.T) {
	v := newVolume(t, 20, 4, 30)
	ring := append(ringOf(1), keysOf(8))
	s, e := New(v.c, v.h, rootKey, ring[:1])
	if e != api.OK {
		t.Fatal(e)
	}
	v.s = s
	if !slices.Equal(ring, append(ringOf(1), keysOf(8))) {
		t.Error("New changed the ring")
	}
	ring[0] = keysOf(5)
	v.same("the ring of New was changed")
	room := sample.Bytes(1024)
	kept := bytes.Clone(room)
	v.doWrite(5, room[:512])
	if !bytes.Equal(room, kept) {
		t.Error("Write changed its bytes")
	}
	clear(room)
	v.right("the bytes of Write were changed")

	ring = ringOf(1, 2, 3)
	copy(room, kept)
	extra := []api.Redo{{Block: v.l.Keys, Bytes: room[:512]}, {Block: 7777}}
	v.doChange(true, ring[:2], extra[:1])
	if !slices.Equal(ring, ringOf(1, 2, 3)) || !bytes.Equal(room, kept) || extra[0].Block != v.l.Keys || len(extra[0].Bytes) != 512 || extra[1].Block != 7777 {
		t.Error("Change changed what was handed in")
	}
	ring[0], ring[1] = keysOf(6), keysOf(7)
	clear(room)
	extra[0] = api.Redo{}
	v.right("what was handed to Change was changed")
	v.doMove()
	v.right("Move")
}

// R3: answers are new memory.
func TestAnswersAreNew(t *testing.T) {
	source := sample.Source(15)
	v := newVolume(t, 20, 4, 30)
	v.fill(&source, 3)
	look := func(what string) {
		t.Helper()
		for _, n := range []int{3, 4} {
			if wrong := sample.NotNew(func() []byte { b, _ := v.s.Read(n); return b }); wrong != "" {
				t.Errorf("%s: Read(%d): %s", what, n, wrong)
			}
		}
		ring := v.s.Ring()
		if behind := ring[len(ring):cap(ring)]; slices.ContainsFunc(behind, func(k api.EpochKeys) bool { return k != api.EpochKeys{} }) {
			t.Errorf("%s: keys are in the room behind the ring", what)
		}
		clear(ring[:cap(ring)])
		v.right(what)
	}
	look("dirty")
	v.doClean()
	look("on the disk")
	v.begin()
	look("a rekey")
	for range 5 {
		v.doMove()
	}
	v.end()
	look("a rekey's end")
}

// R4: the same calls make the same disk; and each store is by itself.
func TestOneFunction(t *testing.T) {
	source := sample.Source(16)
	one, other := newVolume(t, 20, 4, 20), newVolume(t, 20, 4, 20)
	for range 30 {
		n, b := source.Below(20), source.Bytes(512)
		one.doWrite(n, b)
		other.doWrite(n, b)
		if !sample.SameDisks(one.d, other.d) {
			t.Fatal("unlike disks")
		}
	}
	one.fill(&source, 3)
	other.right("another store was written")
}

// P19.2: in which order a Read refuses: where the tags and the nodes are dirty, what they say is told though the disk is off.
func TestReadIsRefusedInOrder(t *testing.T) {
	for _, ring := range [][]api.EpochKeys{ringOf(1), ringOf(5)} {
		source := sample.Source(17)
		v := newVolume(t, 20, 4, 30)
		v.fill(&source, 2)
		v.doClean()
		v.fill(&source, 3)
		v.doChange(false, ring, nil)
		v.stop(0)
		v.reads("never written", 4)
		v.readsNot("its tags are to be read", 19, api.ErrIO)
		if ring[0].Epoch == 1 {
			v.reads("its block is dirty", 3)
			v.readsNot("its block is to be read", 2, api.ErrIO)
		} else {
			v.readsNot("an epoch that the ring has not, its block is dirty", 3, api.ErrIntegrity)
			v.readsNot("an epoch that the ring has not, its block is to be read", 2, api.ErrIntegrity)
		}
	}
}
