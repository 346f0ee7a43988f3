package audit

import (
	"bytes"
	"math"
	"reflect"
	"slices"
	"testing"

	"casket/api"
	"casket/cache"
	"casket/disk"
	"casket/head"
	"casket/journal"
	"casket/keyring"
	"casket/merkle"
	"casket/model"
	"casket/sample"
	"casket/seal"
	"casket/tree"
	"casket/volume"
	"casket/wrap"
)

// headOf is a header of so many sectors, of which a step of a rekey takes some.
func headOf(sectors, slots, segment, journal int) api.Head {
	return api.Head{Generation: 1, Sectors: sectors, Slots: slots, Journal: journal, Segment: segment, Params: api.Params{Time: 1, Memory: 8, Lanes: 1}, Name: [16]byte([]byte("sixteen letters."))}
}

// layoutOf is that of a header that may be.
func layoutOf(t *testing.T, h api.Head) api.Layout {
	t.Helper()
	l, e := head.Layout(h)
	if e != api.OK {
		t.Fatal("Layout", e)
	}
	return l
}

// fresh is what a volume begins with.
func fresh() api.Fresh {
	source := sample.Source(5)
	return api.Fresh{Master: [32]byte(source.Bytes(32)), Salt: [16]byte(source.Bytes(16)), Keys: [64]byte(source.Bytes(64))}
}

// formatted is a disk that was made a volume.
func formatted(t *testing.T, h api.Head, password string) *disk.Disk {
	t.Helper()
	d, _ := disk.New(layoutOf(t, h).Blocks)
	if e := volume.Format(d, h, []byte(password), fresh()); e != api.OK {
		t.Fatal("Format", e)
	}
	return d
}

func opened(t *testing.T, d *disk.Disk, password string) *volume.Volume {
	t.Helper()
	v, e := volume.Open(d, []byte(password))
	if e != api.OK {
		t.Fatal("Open", e)
	}
	return v
}

// ok asks that calls were answered.
func ok(t *testing.T, got ...api.Errno) {
	t.Helper()
	for i, e := range got {
		if e != api.OK {
			t.Fatalf("call %d: %d", i, e)
		}
	}
}

// report is that of a disk, which is the same behind it.
func report(t *testing.T, d *disk.Disk, password string) api.Report {
	t.Helper()
	before := d.Fork()
	r, e := Report(d, []byte(password))
	if e != api.OK {
		t.Fatal("Report", e)
	}
	if !sample.SameDisks(d, before) {
		t.Error("Report: the disk is another one")
	}
	return r
}

// sameReport holds two against each other; lists that are nil or empty are the same.
func sameReport(a, b api.Report) bool {
	lists := slices.Equal(a.Epochs, b.Epochs) && slices.Equal(a.Bad, b.Bad) && slices.Equal(a.Dirty, b.Dirty) && slices.Equal(a.Slots, b.Slots)
	return lists && a.Head == b.Head && a.Root == b.Root && a.Used == b.Used
}

// is asks that a disk's report is that one.
func is(t *testing.T, what string, d *disk.Disk, password string, want api.Report) {
	t.Helper()
	if r := report(t, d, password); !sameReport(r, want) {
		t.Fatalf("%s: %+v, not %+v", what, r, want)
	}
}

// P26.1: a volume that was just made: nothing was written.
func TestReportOfAFreshVolume(t *testing.T) {
	costly := headOf(9, 3, 2, 16)
	costly.Params = api.Params{Time: 2, Memory: 32, Lanes: 3}
	costly.Generation = math.MaxUint64
	for _, h := range []api.Head{headOf(1, 1, 1, 16), headOf(8, 2, 6, 16), headOf(129, 8, 16, 40), headOf(1024, 8, 16, 256), costly} {
		_, root := merkle.Fresh(layoutOf(t, h))
		slots := make([]bool, h.Slots)
		slots[0] = true
		is(t, "fresh", formatted(t, h, "one"), "one", api.Report{Head: h, Root: api.Root{Tree: root}, Epochs: make([]int, h.Sectors), Slots: slots})
	}
}

// watched is a volume beside its model, and the epochs of what was written.
type watched struct {
	t      *testing.T
	h      api.Head
	d      *disk.Disk
	v      *volume.Volume
	m      *model.Model
	epochs []int
	done   int // how many sectors a rekey has taken
	source *sample.Source
}

func watch(t *testing.T, h api.Head, source *sample.Source) *watched {
	t.Helper()
	d := formatted(t, h, "one")
	m, _ := model.New(h, []byte("one"))
	ok(t, m.Open([]byte("one")))
	return &watched{t: t, h: h, d: d, v: opened(t, d, "one"), m: m, epochs: make([]int, h.Sectors), source: source}
}

func (w *watched) info() api.Info {
	i, _ := w.m.Info()
	return i
}

func (w *watched) write(n int) {
	b := w.source.Bytes(512)
	ok(w.t, w.v.Write(n, b), w.m.Write(n, b))
	w.epochs[n] = w.info().Epoch
	if w.info().Left > 0 && n >= w.done {
		w.epochs[n]--
	}
}

func (w *watched) rekeyStart() {
	ok(w.t, w.v.RekeyStart([64]byte(w.source.Bytes(64))), w.m.RekeyStart())
	w.done = 0
}

// rekeyStep takes the next sectors: those that were written lie under the next epoch then.
func (w *watched) rekeyStep() {
	epoch := w.info().Epoch
	for range w.h.Segment {
		if w.done < w.h.Sectors {
			if w.epochs[w.done] > 0 {
				w.epochs[w.done] = epoch
			}
			w.done++
		}
	}
	done, e := w.v.RekeyStep()
	want, f := w.m.RekeyStep()
	ok(w.t, e, f)
	if done != want {
		w.t.Fatal("RekeyStep", done)
	}
	if done {
		w.done = 0
	}
}

func (w *watched) slot() {
	at := 1 + w.source.Below(w.h.Slots-1)
	if w.info().Slots[at] {
		ok(w.t, w.v.SlotRevoke(at), w.m.SlotRevoke(at))
		return
	}
	password := w.source.Bytes(4)
	ok(w.t, w.v.SlotAdd(at, password, [16]byte(w.source.Bytes(16))), w.m.SlotAdd(at, password))
}

// anyCall is one that is not refused.
func (w *watched) anyCall() {
	rekeying := w.info().Left > 0
	switch x := w.source.Below(20); {
	case x < 2 && !rekeying:
		w.slot()
	case x < 4 && !rekeying:
		w.rekeyStart()
	case x < 8 && rekeying:
		w.rekeyStep()
	case x < 10:
		ok(w.t, w.v.Flush(), w.m.Flush())
	default:
		w.write(w.source.Below(w.h.Sectors))
	}
}

// want is the report as the model, what was written and the journal tell it.
func (w *watched) want() api.Report {
	w.t.Helper()
	l, i := layoutOf(w.t, w.h), w.info()
	j, redos, e := journal.Open(w.d, l.Journal, w.h.Journal)
	ok(w.t, e)
	home := w.d.Fork()
	var dirty []int
	for _, x := range redos {
		home.Tamper(x.Block, x.Bytes)
		dirty = append(dirty, x.Block)
	}
	slices.Sort(dirty)
	var leaves [][32]byte
	for n := l.Tags; n < l.Data; n++ {
		b, _ := home.Read(n)
		leaves = append(leaves, tree.Leaf(b))
	}
	_, root, e := tree.Build(leaves)
	ok(w.t, e)
	return api.Report{
		Head: w.h, Epochs: w.epochs, Used: j.Used(), Dirty: slices.Compact(dirty), Slots: i.Slots,
		Root: api.Root{Counter: i.Counter, Rekeying: i.Left > 0, Frontier: w.done, Tree: root},
	}
}

// P26.1, P26.3: behind any calls the report is as the model tells, nothing is bad, and nothing is done to the disk; what is not sure yet is there too.
func TestReportBehindAnyCalls(t *testing.T) {
	dirty, used, rekeying, ended := 0, 0, 0, 0
	for run := range 40 {
		source := sample.Source(500 + run)
		segment := 1 + source.Below(8)
		w := watch(t, headOf(1+source.Below(30), 2+source.Below(4), segment, 16+segment+source.Below(40)), &source)
		for range 30 {
			for range source.Below(5) {
				w.anyCall()
			}
			want := w.want()
			is(t, "behind any calls", w.d, "one", want)
			dirty += len(want.Dirty)
			used += want.Used
			if want.Root.Rekeying {
				rekeying++
			}
		}
		ended += w.info().Epoch - 1
	}
	if dirty < 1000 || used < 1000 || rekeying < 200 || ended < 40 {
		t.Errorf("%d blocks were dirty, %d used, %d reports in rekeys, %d rekeys", dirty, used, rekeying, ended)
	}
}

// P26.1: by whichever passphrase it is opened, the report is the same.
func TestReportByEachPassphrase(t *testing.T) {
	source := sample.Source(6)
	w := watch(t, headOf(9, 3, 2, 40), &source)
	longest := string(source.Bytes(512))
	for at, password := range map[int]string{1: "", 2: longest} {
		ok(t, w.v.SlotAdd(at, []byte(password), [16]byte{1}), w.m.SlotAdd(at, []byte(password)))
	}
	w.write(3)
	for _, password := range []string{"one", "", longest} {
		is(t, "a passphrase", w.d, password, w.want())
	}
}

// P26.1: of what is not sure what the disk has counts, as for a volume; a crash takes it away.
func TestReportOfTheUnsure(t *testing.T) {
	source := sample.Source(7)
	w := watch(t, headOf(9, 2, 2, 60), &source)
	w.write(3)
	ok(t, w.v.Flush())
	sure := w.want()
	sure.Epochs = slices.Clone(sure.Epochs)
	w.write(5)
	if len(w.d.Unsure()) == 0 || sameReport(w.want(), sure) {
		t.Fatal("all is sure")
	}
	is(t, "unsure", w.d, "one", w.want())
	w.d.Crash(nil)
	is(t, "behind a crash", w.d, "one", sure)
}

// P26.1: a disk that is about to go off does not, as nothing is written.
func TestReportWritesNothing(t *testing.T) {
	source := sample.Source(8)
	w := watch(t, headOf(9, 2, 2, 20), &source)
	for range 9 {
		w.anyCall()
	}
	w.d.Stop(1)
	for range 5 {
		is(t, "a stop", w.d, "one", w.want())
	}
	if w.d.Off() {
		t.Error("it is off")
	}
	if e := w.d.Flush(); e != api.OK || !w.d.Off() {
		t.Errorf("Flush: %d", e)
	}
}

// refused asks that there is no report, as Open is refused, and that nothing is done to the disk.
func refused(t *testing.T, what string, d *disk.Disk, password []byte, want api.Errno) {
	t.Helper()
	before := d.Fork()
	if r, e := Report(d, password); e != want || !reflect.DeepEqual(r, api.Report{}) {
		t.Errorf("%s: %+v, %d, not %d", what, r, e, want)
	}
	if d != nil && !sample.SameDisks(d, before) {
		t.Errorf("%s: the disk is another one", what)
	}
}

// P26.1: what may not be, and what is no volume, as Open tells it.
func TestReportRefused(t *testing.T) {
	h := headOf(9, 2, 2, 16)
	base := formatted(t, h, "one")
	l := layoutOf(t, h)
	for _, size := range []int{513, 514, 70000} {
		refused(t, "no disk", nil, make([]byte, size), api.ErrArg)
		refused(t, "too long", base, make([]byte, size), api.ErrArg)
		refused(t, "too long, no volume", dirtyDisk(9), make([]byte, size), api.ErrArg)
	}
	refused(t, "no disk", nil, []byte("one"), api.ErrArg)
	refused(t, "no disk", nil, nil, api.ErrArg)
	for _, blocks := range []int{1, 2, 100, 4096} {
		refused(t, "no volume", dirtyDisk(blocks), []byte("one"), api.ErrFormat)
	}
	short, _ := disk.New(l.Blocks - 1)
	for n := range l.Blocks - 1 {
		short.Tamper(n, base.Sure(n))
	}
	refused(t, "a short one", short, []byte("one"), api.ErrFormat)
	refused(t, "another passphrase", base, []byte("two"), api.ErrNoKey)
	refused(t, "another passphrase", base, nil, api.ErrNoKey)
	changed := func(what string, want api.Errno, blocks ...int) {
		t.Helper()
		d := base.Fork()
		for _, n := range blocks {
			d.Tamper(n, sample.Bytes(512))
		}
		refused(t, what, d, []byte("one"), want)
		d.Stop(0)
		refused(t, what+", off", d, []byte("one"), api.ErrIO)
		refused(t, what+", off, too long", d, make([]byte, 513), api.ErrArg)
	}
	changed("no header", api.ErrFormat, 0, 1)
	changed("no mark", api.ErrFormat, l.Journal)
	changed("no mark, no slot", api.ErrFormat, l.Journal, l.Slots)
	changed("no slot", api.ErrNoKey, l.Slots)
	changed("no slot, no keys", api.ErrNoKey, l.Slots, l.Keys)
	changed("no keys", api.ErrIntegrity, l.Keys)
	changed("no root", api.ErrIntegrity, l.Root)
}

// P26.1: whatever somebody wrote over a closed volume: what Open refuses is refused so; else the sectors that reading refuses are bad, and no other ones.
func TestReportOfRewrittenBlocks(t *testing.T) {
	source := sample.Source(9)
	w := watch(t, headOf(20, 3, 4, 20), &source)
	var elder []*disk.Disk
	for range 5 {
		for range 20 {
			w.anyCall()
		}
		ok(t, w.v.Flush())
		elder = append(elder, w.d.Fork())
	}
	kinds := map[string]int{}
	for range 800 {
		d := elder[4].Fork()
		for range 1 + source.Below(4) {
			n := source.Below(d.Len())
			b := d.Sure(n)
			switch source.Below(4) {
			case 0:
				b = elder[source.Below(4)].Sure(n)
			case 1:
				b = d.Sure(source.Below(d.Len()))
			default:
				b[source.Below(512)] ^= 1 << source.Below(8)
			}
			d.Tamper(n, b)
		}
		v, e := volume.Open(d, []byte("one"))
		if e != api.OK {
			refused(t, "rewritten", d, []byte("one"), e)
			kinds["refused"]++
			continue
		}
		r := report(t, d, "one")
		i, e := v.Info()
		ok(t, e)
		var bad []int
		for n := range 20 {
			if _, e := v.Read(n); e == api.ErrIntegrity {
				bad = append(bad, n)
			} else if e != api.OK {
				t.Fatalf("Read(%d): %d", n, e)
			}
		}
		if !slices.Equal(r.Bad, bad) || len(r.Epochs) != 20 || r.Head != i.Head || r.Root.Counter != i.Counter || !slices.Equal(r.Slots, i.Slots) {
			t.Fatalf("%+v, and it reads %v not, and tells %+v", r, bad, i)
		}
		switch len(bad) {
		case 0:
			kinds["whole"]++
		case 20:
			kinds["nothing"]++
		default:
			kinds["some"]++
		}
	}
	if kinds["refused"] < 30 || kinds["whole"] < 30 || kinds["some"] < 30 || kinds["nothing"] < 5 {
		t.Errorf("%v", kinds)
	}
}

// closedVolume has all blocks home, and sectors 0 to 17 of 20 written, the first 10 of them before a rekey.
func closedVolume(t *testing.T, source *sample.Source) *watched {
	t.Helper()
	w := watch(t, headOf(20, 3, 4, 40), source)
	for n := range 10 {
		w.write(n)
	}
	w.rekeyStart()
	for range 5 {
		w.rekeyStep()
	}
	for n := 8; n < 18; n++ {
		w.write(n)
	}
	ok(t, w.v.SlotAdd(2, []byte("two"), [16]byte{2}), w.m.SlotAdd(2, []byte("two")))
	ok(t, w.v.SlotRevoke(2), w.m.SlotRevoke(2))
	ok(t, w.v.Close())
	return w
}

// P26.1, P26.3: each block, rewritten alone: which sectors are bad by it, and which epochs are still told.
func TestReportOfOneRewrittenBlock(t *testing.T) {
	source := sample.Source(10)
	w := closedVolume(t, &source)
	l, right := layoutOf(t, w.h), w.want()
	is(t, "as it is", w.d, "one", right)
	if right.Used != 0 || len(right.Dirty) != 0 || slices.Max(right.Epochs) != 2 || right.Epochs[18] != 0 || right.Epochs[0] != 2 {
		t.Fatalf("%+v", right)
	}
	rewritten := func(n int, b []byte) *disk.Disk {
		d := w.d.Fork()
		if bytes.Equal(d.Sure(n), b) {
			b[5]++
		}
		d.Tamper(n, b)
		return d
	}
	for _, b := range [][]byte{make([]byte, 512), source.Bytes(512), w.d.Sure(l.Data + 3), w.d.Sure(l.Tags)} {
		for n := l.Data; n < l.Blocks; n++ {
			want := right
			if n-l.Data < 18 {
				want.Bad = []int{n - l.Data}
			}
			is(t, "a sector", rewritten(n, bytes.Clone(b)), "one", want)
		}
		for n := l.Tags; n < l.Data; n++ {
			want := right
			want.Epochs = slices.Clone(right.Epochs)
			for k := 8 * (n - l.Tags); k < min(20, 8*(n-l.Tags)+8); k++ {
				want.Bad = append(want.Bad, k)
				want.Epochs[k] = 0
			}
			is(t, "tags", rewritten(n, bytes.Clone(b)), "one", want)
		}
		want := right
		want.Epochs, want.Bad = make([]int, 20), numbers(0, 20)
		is(t, "the node", rewritten(l.Tree, bytes.Clone(b)), "one", want)
		for n := l.Journal + 1; n < l.Tree; n++ {
			is(t, "the journal", rewritten(n, bytes.Clone(b)), "one", right)
		}
	}
	taken := right
	taken.Slots = []bool{true, true, false}
	is(t, "a slot that is none", rewritten(l.Slots+1, source.Bytes(512)), "one", taken)
	for n := range 2 {
		is(t, "one header", rewritten(n, source.Bytes(512)), "one", right)
	}
}

// P26.1: a record's epoch is told also where the ring has no such keys, and the sector is bad then.
func TestReportOfOtherKeys(t *testing.T) {
	source := sample.Source(11)
	w := closedVolume(t, &source)
	l, want := layoutOf(t, w.h), w.want()
	x, e := keyring.Keys(w.h, fresh().Master, []api.EpochKeys{{Epoch: 7}})
	ok(t, e)
	other := w.d.Fork()
	other.Tamper(l.Keys, x.Bytes)
	want.Bad = numbers(0, 18)
	is(t, "another epoch's keys", other, "one", want)
	x, e = keyring.Keys(w.h, fresh().Master, []api.EpochKeys{{Epoch: 2}})
	ok(t, e)
	other.Tamper(l.Keys, x.Bytes)
	is(t, "other keys of that epoch", other, "one", want)
}

// P26.1: a right block of tags may have a record without an epoch that is not zeros: there is no epoch to tell, and the sector is bad.
func TestReportOfARecordWithoutAnEpoch(t *testing.T) {
	source := sample.Source(12)
	w := closedVolume(t, &source)
	l, want := layoutOf(t, w.h), w.want()
	c, e := cache.Open(w.d, l.Journal, w.h.Journal)
	ok(t, e)
	s := merkle.NewStage(c)
	tags, _ := s.Read(l.Tags + 1)
	tags, e = seal.With(tags, 11, [64]byte{60: 1})
	ok(t, e)
	r := want.Root
	r.Tree, e = merkle.Change(s, l, 1, tags, r.Tree)
	ok(t, e)
	b, e := seal.RootBlock(wrap.Root(fresh().Master), w.h, r)
	ok(t, e, s.Write(l.Root, b), s.Commit(), c.Clean())
	want.Root, want.Bad = r, []int{11}
	want.Epochs = slices.Clone(want.Epochs)
	want.Epochs[11] = 0
	is(t, "a record without an epoch", w.d, "one", want)
}

// P26.1: later of two headers that hold is the volume's.
func TestReportOfALaterHeader(t *testing.T) {
	h := headOf(9, 2, 2, 16)
	d := formatted(t, h, "one")
	later := h
	later.Generation, later.Segment = 9, 5
	b, _ := head.Encode(later)
	d.Tamper(1, b)
	if r := report(t, d, "one"); r.Head != later {
		t.Errorf("%+v", r.Head)
	}
}

// P26.3: behind any crashes nothing is bad, what was never written has no epoch, and behind a rekey there is no elder epoch.
func TestReportBehindCrashes(t *testing.T) {
	rekeys := 0
	for run := range 25 {
		source := sample.Source(900 + run)
		segment := 1 + source.Below(6)
		h := headOf(4+source.Below(20), 2, segment, 16+segment+source.Below(20))
		d := formatted(t, h, "one")
		written := map[int]int{}
		for range 30 {
			v := opened(t, d, "one")
			d.Stop(source.Below(60))
			for range source.Below(8) {
				switch n := source.Below(h.Sectors - 2); source.Below(6) {
				case 0:
					v.RekeyStart([64]byte(source.Bytes(64)))
				case 1, 2:
					v.RekeyStep()
				default:
					v.Write(n, source.Bytes(512))
					written[n]++
				}
			}
			keeps := slices.Collect(source.Keeps(d.Unsure(), 20))
			ok(t, d.Crash(keeps[source.Below(len(keeps))]))
			r := report(t, d, "one")
			i, e := opened(t, d, "one").Info()
			ok(t, e)
			if len(r.Bad) != 0 || r.Root.Counter != i.Counter || r.Root.Rekeying != (i.Left > 0) {
				t.Fatalf("%+v, and it tells %+v", r, i)
			}
			for n, epoch := range r.Epochs {
				least := i.Epoch
				if r.Root.Rekeying && n >= r.Root.Frontier {
					least--
				}
				if epoch != 0 && (written[n] == 0 || epoch != least) {
					t.Fatalf("sector %d: %d, and it was written %d times; %+v", n, epoch, written[n], r)
				}
			}
			rekeys = max(rekeys, i.Epoch-1)
		}
	}
	if rekeys < 2 {
		t.Errorf("%d rekeys at most", rekeys)
	}
}

// R3: a report is new memory, and what is handed in is not changed.
func TestMemoryOfReports(t *testing.T) {
	source := sample.Source(13)
	w := watch(t, headOf(9, 2, 2, 40), &source)
	for range 9 {
		w.anyCall()
	}
	l := layoutOf(t, w.h)
	w.d.Tamper(l.Tags, sample.Bytes(512))
	password := []byte("one, and more")
	ask := func() api.Report {
		r, e := Report(w.d, password[:3])
		ok(t, e)
		return r
	}
	first, want, second := ask(), ask(), ask()
	for _, list := range [][]int{second.Epochs, second.Bad, second.Dirty} {
		for i := range list[:cap(list)] {
			list[:cap(list)][i] = -1
		}
	}
	clear(second.Slots[:cap(second.Slots)])
	if !sameReport(first, want) || !sameReport(ask(), want) || string(password) != "one, and more" {
		t.Error("reports share memory, or the passphrase is another one")
	}
}
