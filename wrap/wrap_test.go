package wrap

import (
	"bytes"
	"crypto/aes"
	"crypto/hmac"
	"crypto/sha256"
	"encoding/binary"
	"math"
	"slices"
	"strings"
	"testing"

	"casket/api"
	"casket/argon"
	"casket/sample"
)

// usual is a header that may be.
func usual() api.Head {
	return api.Head{Generation: 7, Sectors: 100, Slots: 3, Journal: 40, Segment: 5, Params: api.Params{Time: 1, Memory: 8, Lanes: 1}, Name: [16]byte([]byte("sixteen letters."))}
}

// wrong are headers that may not be.
func wrong() []api.Head {
	return sample.WrongHeads(usual())
}

// rings are such that may be.
func rings(source *sample.Source) [][]api.EpochKeys {
	var list [][]api.EpochKeys
	for _, epoch := range []int{1, 2, 255, 256, 1<<16 - 1, 1 << 16, 1<<31 - 1, 1 << 31, 1<<32 - 2, 1<<32 - 1} {
		list = append(list, anyRing(source, epoch))
		if epoch < 1<<32-1 {
			list = append(list, anyRing(source, epoch, epoch+1))
		}
	}
	return list
}

// wrongEpochs are numbers of epochs that no ring has.
func wrongEpochs() [][]int {
	return [][]int{
		nil, {1, 2, 3}, {1, 2, 3, 4},
		{0}, {-1}, {1 << 32}, {1<<32 + 1}, {math.MinInt}, {math.MaxInt},
		{1, 1}, {2, 1}, {1, 3}, {0, 1}, {-1, 0}, {1, 0},
		{1<<32 - 1, 1 << 32}, {1<<32 - 1, 0}, {1 << 32, 1<<32 + 1}, {math.MaxInt, math.MinInt}, {1, 1<<32 + 2},
	}
}

// anyRing is keys of epochs.
func anyRing(source *sample.Source, epochs ...int) []api.EpochKeys {
	var ring []api.EpochKeys
	for _, epoch := range epochs {
		ring = append(ring, api.EpochKeys{Epoch: epoch, Data: [32]byte(source.Bytes(32)), Tag: [32]byte(source.Bytes(32))})
	}
	return ring
}

// tagOf is the library's.
func tagOf(key []byte, message ...[]byte) []byte {
	h := hmac.New(sha256.New, key)
	h.Write(slices.Concat(message...))
	return h.Sum(nil)
}

// derived is bytes as chapter 5 words them, by the library's tags.
func derived(key [32]byte, label string, n int) []byte {
	var all, ahead []byte
	for count := byte(1); len(all) < n; count++ {
		ahead = tagOf(key[:], ahead, []byte(label), []byte{count})
		all = append(all, ahead...)
	}
	return all[:n]
}

// ciphered is bytes enciphered as chapter 3 words it, by the library's cipher.
func ciphered(key []byte, unit uint64, plain []byte) []byte {
	blocks, _ := aes.NewCipher(key[:16])
	tweaks, _ := aes.NewCipher(key[16:32])
	tweak := make([]byte, 16)
	binary.LittleEndian.PutUint64(tweak, unit)
	tweaks.Encrypt(tweak, tweak)
	var sealed []byte
	for block := range slices.Chunk(plain, 16) {
		block = added(block, tweak)
		blocks.Encrypt(block, block)
		sealed = append(sealed, added(block, tweak)...)
		tweak = doubled(tweak)
	}
	return sealed
}

func added(block, other []byte) []byte {
	sum := bytes.Clone(block)
	for i := range sum {
		sum[i] ^= other[i]
	}
	return sum
}

// doubled is a tweak times x in its field.
func doubled(tweak []byte) []byte {
	var next []byte
	carry := byte(0)
	for _, b := range tweak {
		next = append(next, b<<1|carry)
		carry = b >> 7
	}
	next[0] ^= carry * 0x87
	return next
}

// wordedSlot is a slot as the chapter words it.
func wordedSlot(h api.Head, master [32]byte, password []byte, salt [16]byte) api.Slot {
	keys, _ := argon.Key(64, h.Params, api.Secret{Password: password, Salt: salt[:], Data: h.Name[:]})
	wrapped := ciphered(keys[:32], 0, master[:])
	return api.Slot{Active: true, Salt: salt, Wrapped: [32]byte(wrapped), Tag: [32]byte(tagOf(keys[32:], []byte("slot"), salt[:], wrapped))}
}

// wordedKeys are epochs' keys, wrapped as the chapter words it.
func wordedKeys(h api.Head, master [32]byte, ring []api.EpochKeys) api.Keys {
	keys := derived(master, "keys", 64)
	var k api.Keys
	for _, x := range ring {
		wrapped := ciphered(keys[:32], uint64(x.Epoch), append(bytes.Clone(x.Data[:]), x.Tag[:]...))
		k.Epochs = append(k.Epochs, api.Epoch{Epoch: x.Epoch, Wrapped: [64]byte(wrapped)})
	}
	return tagged(h, master, k)
}

// tagged is wrapped keys with the tag that they should have, whatever they are.
func tagged(h api.Head, master [32]byte, k api.Keys) api.Keys {
	text := append([]byte("KEYS"), byte(len(k.Epochs)))
	for _, x := range k.Epochs {
		text = binary.LittleEndian.AppendUint32(text, uint32(x.Epoch))
		text = append(text, x.Wrapped[:]...)
	}
	return api.Keys{Epochs: k.Epochs, Tag: [32]byte(tagOf(derived(master, "keys", 64)[32:], text, h.Name[:]))}
}

// sameKeys tells whether wrapped keys are the same.
func sameKeys(a, b api.Keys) bool {
	return slices.Equal(a.Epochs, b.Epochs) && a.Tag == b.Tag
}

// unwrapsNot asks that Unwrap refuses a slot.
func unwrapsNot(t *testing.T, what string, h api.Head, s api.Slot, password []byte, want api.Errno) {
	t.Helper()
	if got, e := Unwrap(h, s, password); got != [32]byte{} || e != want {
		t.Errorf("%s: Unwrap: %x, %d, not %d", what, got, e, want)
	}
}

// ringsNot asks that Ring refuses wrapped keys.
func ringsNot(t *testing.T, what string, h api.Head, master [32]byte, k api.Keys, want api.Errno) {
	t.Helper()
	if got, e := Ring(h, master, k); len(got) != 0 || e != want {
		t.Errorf("%s: Ring: %v, %d, not %d", what, got, e, want)
	}
}

// P20.1: the chapter's example.
func TestExample(t *testing.T) {
	master := [32]byte(sample.Bytes(32))
	s, e := Wrap(usual(), master, []byte("one"), [16]byte{1})
	if e != api.OK {
		t.Fatal(e)
	}
	if got, e := Unwrap(usual(), s, []byte("one")); got != master || e != api.OK {
		t.Errorf("the same passphrase: %d", e)
	}
	unwrapsNot(t, "another one", usual(), s, []byte("two"), api.ErrNoKey)
}

// P20.1, P20.3: slots are as the chapter words them, and are unwrapped by the same passphrase.
func TestWrap(t *testing.T) {
	source := sample.Source(1)
	params := []api.Params{{Time: 1, Memory: 8, Lanes: 1}, {Time: 2, Memory: 20, Lanes: 2}, {Time: 1, Memory: 33, Lanes: 4}}
	for _, size := range []int{0, 1, 8, 63, 64, 65, 511, 512} {
		for _, p := range params {
			h := usual()
			h.Params, h.Name = p, [16]byte(source.Bytes(16))
			master, salt, password := [32]byte(source.Bytes(32)), [16]byte(source.Bytes(16)), source.Bytes(size)
			s, e := Wrap(h, master, password, salt)
			if want := wordedSlot(h, master, password, salt); e != api.OK || s != want {
				t.Fatalf("%d bytes: %+v, %d, not %+v", size, s, e, want)
			}
			if got, e := Unwrap(h, s, password); e != api.OK || got != master {
				t.Errorf("%d bytes: Unwrap: %d", size, e)
			}
		}
	}
	for _, master := range [][32]byte{{}, [32]byte(bytes.Repeat([]byte{255}, 32))} {
		s, e := Wrap(usual(), master, nil, [16]byte{})
		if e != api.OK || s != wordedSlot(usual(), master, []byte{}, [16]byte{}) {
			t.Errorf("nothing but zeros: %+v, %d", s, e)
		}
		if got, e := Unwrap(usual(), s, []byte{}); e != api.OK || got != master {
			t.Errorf("nothing but zeros: Unwrap: %d", e)
		}
	}
}

// P20.1: headers that may not be, and passphrases that are too long, ahead of all else.
func TestWrapIsRefused(t *testing.T) {
	right, _ := Wrap(usual(), [32]byte{1}, []byte("one"), [16]byte{1})
	slots := []api.Slot{right, {}, {Active: true}}
	refused := func(what string, h api.Head, password []byte) {
		t.Helper()
		if s, e := Wrap(h, [32]byte{1}, password, [16]byte{1}); s != (api.Slot{}) || e != api.ErrArg {
			t.Errorf("%s: Wrap: %d", what, e)
		}
		for _, s := range slots {
			unwrapsNot(t, what, h, s, password, api.ErrArg)
		}
	}
	for _, h := range wrong() {
		refused("a header", h, []byte("one"))
		refused("a header, too long", h, make([]byte, 513))
	}
	for _, size := range []int{513, 514, 1024, 1 << 16} {
		refused("too long", usual(), sample.Bytes(size))
	}
}

// P20.1: a slot that is not Active, whatever else it has.
func TestUnwrapOfAnEmptySlot(t *testing.T) {
	s, _ := Wrap(usual(), [32]byte{1}, []byte("one"), [16]byte{1})
	s.Active = false
	unwrapsNot(t, "it was active once", usual(), s, []byte("one"), api.ErrNone)
	unwrapsNot(t, "it was active once", usual(), s, []byte("two"), api.ErrNone)
	unwrapsNot(t, "empty", usual(), api.Slot{}, []byte("one"), api.ErrNone)
	unwrapsNot(t, "empty", usual(), api.Slot{}, nil, api.ErrNone)
	unwrapsNot(t, "empty, as long as may be", usual(), api.Slot{}, make([]byte, 512), api.ErrNone)
}

// P20.1: each bit of a slot.
func TestUnwrapOfEachBit(t *testing.T) {
	source := sample.Source(2)
	right, _ := Wrap(usual(), [32]byte(source.Bytes(32)), []byte("one"), [16]byte(source.Bytes(16)))
	for bit := range 128 {
		s := right
		s.Salt[bit/8] ^= 1 << (bit % 8)
		unwrapsNot(t, "the salt", usual(), s, []byte("one"), api.ErrNoKey)
	}
	for bit := range 256 {
		s := right
		s.Wrapped[bit/8] ^= 1 << (bit % 8)
		unwrapsNot(t, "the wrapped bytes", usual(), s, []byte("one"), api.ErrNoKey)
		s = right
		s.Tag[bit/8] ^= 1 << (bit % 8)
		unwrapsNot(t, "the tag", usual(), s, []byte("one"), api.ErrNoKey)
	}
	unwrapsNot(t, "zeros", usual(), api.Slot{Active: true}, []byte("one"), api.ErrNoKey)
}

// P20.1, P20.3: other passphrases.
func TestUnwrapOfOtherPassphrases(t *testing.T) {
	right := "open, sesame"
	s, _ := Wrap(usual(), [32]byte{5}, []byte(right), [16]byte{6})
	for _, password := range []string{"", "open, sesam", "open, sesame ", "open, sesame\x00", "\x00open, sesame", "Open, sesame", strings.Repeat(right, 2), strings.Repeat("\x00", 512)} {
		unwrapsNot(t, "another one", usual(), s, []byte(password), api.ErrNoKey)
	}
	for bit := range 8 * len(right) {
		password := []byte(right)
		password[bit/8] ^= 1 << (bit % 8)
		unwrapsNot(t, "a bit", usual(), s, password, api.ErrNoKey)
	}
	if _, e := Unwrap(usual(), s, []byte(right)); e != api.OK {
		t.Errorf("the right one: %d", e)
	}
}

// P20.1: of the header its Params and its Name count, and nothing else.
func TestUnwrapUnderOtherHeaders(t *testing.T) {
	master, password := [32]byte{5}, []byte("one")
	s, _ := Wrap(usual(), master, password, [16]byte{6})
	for bit := range 128 {
		h := usual()
		h.Name[bit/8] ^= 1 << (bit % 8)
		unwrapsNot(t, "another name", h, s, password, api.ErrNoKey)
	}
	for _, p := range []api.Params{{Time: 2, Memory: 8, Lanes: 1}, {Time: 1, Memory: 9, Lanes: 1}, {Time: 1, Memory: 16, Lanes: 2}} {
		h := usual()
		h.Params = p
		unwrapsNot(t, "other parameters", h, s, password, api.ErrNoKey)
	}
	h := usual()
	h.Generation, h.Sectors, h.Slots, h.Journal, h.Segment = 99, 1024, 8, 256, 16
	if got, e := Unwrap(h, s, password); got != master || e != api.OK {
		t.Errorf("what does not count: %d", e)
	}
}

// P20.1: whoever made a slot, if its tag is right, its bytes are unwrapped.
func TestUnwrapOfAnyBytes(t *testing.T) {
	source := sample.Source(3)
	for range 20 {
		password, salt, wrapped := source.Bytes(9), [16]byte(source.Bytes(16)), [32]byte(source.Bytes(32))
		h := usual()
		keys, _ := argon.Key(64, h.Params, api.Secret{Password: password, Salt: salt[:], Data: h.Name[:]})
		s := api.Slot{Active: true, Salt: salt, Wrapped: wrapped, Tag: [32]byte(tagOf(keys[32:], []byte("slot"), salt[:], wrapped[:]))}
		master, e := Unwrap(h, s, password)
		if e != api.OK || !bytes.Equal(ciphered(keys[:32], 0, master[:]), wrapped[:]) {
			t.Errorf("%d", e)
		}
	}
}

// P20.2, P20.3: wrapped keys are as the chapter words them, and are unwrapped by the same master key.
func TestKeysAndRing(t *testing.T) {
	source := sample.Source(4)
	for _, ring := range rings(&source) {
		h := usual()
		h.Name = [16]byte(source.Bytes(16))
		master := [32]byte(source.Bytes(32))
		k, e := Keys(h, master, ring)
		if want := wordedKeys(h, master, ring); e != api.OK || !sameKeys(k, want) {
			t.Fatalf("epoch %d, %d in all: %+v, %d, not %+v", ring[0].Epoch, len(ring), k, e, want)
		}
		if got, e := Ring(h, master, k); e != api.OK || !slices.Equal(got, ring) {
			t.Errorf("epoch %d, %d in all: Ring: %v, %d", ring[0].Epoch, len(ring), got, e)
		}
	}
	ring := []api.EpochKeys{{Epoch: 1}, {Epoch: 2}}
	k, e := Keys(usual(), [32]byte{}, ring)
	if e != api.OK || !sameKeys(k, wordedKeys(usual(), [32]byte{}, ring)) || k.Epochs[0].Wrapped == k.Epochs[1].Wrapped {
		t.Errorf("nothing but zeros: %+v, %d", k, e)
	}
}

// P20.2: rings that may not be, headers that may not be.
func TestKeysAreRefused(t *testing.T) {
	source := sample.Source(5)
	refused := func(what string, h api.Head, ring []api.EpochKeys) {
		t.Helper()
		if k, e := Keys(h, [32]byte{1}, ring); len(k.Epochs) != 0 || k.Tag != [32]byte{} || e != api.ErrArg {
			t.Errorf("%s: %+v, %d", what, k, e)
		}
	}
	for _, epochs := range wrongEpochs() {
		refused("a ring", usual(), anyRing(&source, epochs...))
	}
	refused("many", usual(), make([]api.EpochKeys, 10000))
	for _, h := range wrong() {
		refused("a header", h, anyRing(&source, 1))
		refused("a header and a ring", h, nil)
		k := wordedKeys(h, [32]byte{1}, anyRing(&source, 1))
		ringsNot(t, "a header", h, [32]byte{1}, k, api.ErrArg)
		ringsNot(t, "a header, no keys", h, [32]byte{1}, api.Keys{}, api.ErrArg)
	}
}

// P20.2: wrapped keys that may not be, though their tag is right.
func TestRingOfWrongKeys(t *testing.T) {
	master := [32]byte{1}
	for _, epochs := range wrongEpochs() {
		var k api.Keys
		for _, epoch := range epochs {
			k.Epochs = append(k.Epochs, api.Epoch{Epoch: epoch})
		}
		ringsNot(t, "without a tag", usual(), master, k, api.ErrIntegrity)
		ringsNot(t, "with a tag", usual(), master, tagged(usual(), master, k), api.ErrIntegrity)
	}
	for _, epoch := range []int{1, 1<<32 - 1} {
		k := api.Keys{Epochs: []api.Epoch{{Epoch: epoch, Wrapped: [64]byte(sample.Bytes(64))}}}
		ringsNot(t, "without a tag", usual(), master, k, api.ErrIntegrity)
		ring, e := Ring(usual(), master, tagged(usual(), master, k))
		if e != api.OK || len(ring) != 1 || !sameKeys(wordedKeys(usual(), master, ring), tagged(usual(), master, k)) {
			t.Errorf("any bytes with a right tag: %v, %d", ring, e)
		}
	}
}

// P20.2: each bit of wrapped keys, of the master key, of the name.
func TestRingOfEachBit(t *testing.T) {
	source := sample.Source(6)
	master := [32]byte(source.Bytes(32))
	right, _ := Keys(usual(), master, anyRing(&source, 8, 9))
	for bit := range 512 {
		for i := range 2 {
			k := api.Keys{Epochs: slices.Clone(right.Epochs), Tag: right.Tag}
			k.Epochs[i].Wrapped[bit/8] ^= 1 << (bit % 8)
			ringsNot(t, "a wrapped bit", usual(), master, k, api.ErrIntegrity)
		}
	}
	for bit := range 256 {
		k := right
		k.Tag[bit/8] ^= 1 << (bit % 8)
		ringsNot(t, "a bit of the tag", usual(), master, k, api.ErrIntegrity)
		other := master
		other[bit/8] ^= 1 << (bit % 8)
		ringsNot(t, "another master key", usual(), other, right, api.ErrIntegrity)
	}
	for bit := range 128 {
		h := usual()
		h.Name[bit/8] ^= 1 << (bit % 8)
		ringsNot(t, "another name", h, master, right, api.ErrIntegrity)
	}
	for _, change := range []func(k *api.Keys){
		func(k *api.Keys) { k.Epochs[0].Epoch, k.Epochs[1].Epoch = 9, 10 },
		func(k *api.Keys) { k.Epochs[0].Epoch, k.Epochs[1].Epoch = 7, 8 },
		func(k *api.Keys) { k.Epochs = k.Epochs[:1] },
		func(k *api.Keys) { k.Epochs = k.Epochs[1:] },
		func(k *api.Keys) { k.Epochs[0].Wrapped, k.Epochs[1].Wrapped = k.Epochs[1].Wrapped, k.Epochs[0].Wrapped },
	} {
		k := api.Keys{Epochs: slices.Clone(right.Epochs), Tag: right.Tag}
		change(&k)
		ringsNot(t, "other epochs", usual(), master, k, api.ErrIntegrity)
	}
	h := usual()
	h.Generation, h.Sectors, h.Slots, h.Journal, h.Segment, h.Params = 99, 1024, 8, 256, 16, api.Params{Time: 2, Memory: 9, Lanes: 1}
	if ring, e := Ring(h, master, right); len(ring) != 2 || e != api.OK {
		t.Errorf("what does not count: %d", e)
	}
}

// P20.2: the root's key.
func TestRoot(t *testing.T) {
	source := sample.Source(7)
	for range 20 {
		master := [32]byte(source.Bytes(32))
		if got := Root(master); !bytes.Equal(got[:], derived(master, "root", 32)) {
			t.Errorf("%x: %x", master, got)
		}
	}
	if Root([32]byte{}) == Root([32]byte{31: 1}) {
		t.Error("two master keys have one root's key")
	}
}

// R3: what is handed in is left alone.
func TestArgumentsAreLeftAlone(t *testing.T) {
	source := sample.Source(8)
	room := source.Bytes(100)
	kept := bytes.Clone(room)
	s, _ := Wrap(usual(), [32]byte{1}, room[:20], [16]byte{2})
	Unwrap(usual(), s, room[:20])
	if !bytes.Equal(room, kept) {
		t.Error("a passphrase was changed")
	}
	ring := anyRing(&source, 1, 2, 3)
	keptRing := slices.Clone(ring)
	k, _ := Keys(usual(), [32]byte{1}, ring[:2])
	epochs := append(slices.Clone(k.Epochs), api.Epoch{Epoch: 77})
	Ring(usual(), [32]byte{1}, api.Keys{Epochs: epochs[:2], Tag: k.Tag})
	if !slices.Equal(ring, keptRing) || !slices.Equal(epochs, append(slices.Clone(k.Epochs), api.Epoch{Epoch: 77})) {
		t.Error("epochs were changed")
	}
}

// R3: answers are new memory.
func TestAnswersAreNew(t *testing.T) {
	source := sample.Source(9)
	master, ring := [32]byte{1}, anyRing(&source, 1, 2)
	one, _ := Keys(usual(), master, ring)
	other, _ := Keys(usual(), master, ring)
	if behind := one.Epochs[2:cap(one.Epochs)]; slices.ContainsFunc(behind, func(x api.Epoch) bool { return x != api.Epoch{} }) {
		t.Error("something is in the room behind the epochs")
	}
	clear(one.Epochs[:cap(one.Epochs)])
	if !sameKeys(other, wordedKeys(usual(), master, ring)) {
		t.Error("wrapped keys share memory")
	}
	first, _ := Ring(usual(), master, other)
	second, _ := Ring(usual(), master, other)
	if behind := first[2:cap(first)]; slices.ContainsFunc(behind, func(k api.EpochKeys) bool { return k != api.EpochKeys{} }) {
		t.Error("something is in the room behind the ring")
	}
	clear(first[:cap(first)])
	if !slices.Equal(second, ring) {
		t.Error("rings share memory")
	}
}

// R4: many may wrap and unwrap at once.
func TestManyAtOnce(t *testing.T) {
	master := [32]byte{3}
	answers := make(chan api.Slot)
	for range 4 {
		go func() {
			s, _ := Wrap(usual(), master, []byte("one"), [16]byte{4})
			if got, e := Unwrap(usual(), s, []byte("one")); got != master || e != api.OK {
				t.Errorf("Unwrap: %d", e)
			}
			answers <- s
		}()
	}
	for range 4 {
		if got := <-answers; got != wordedSlot(usual(), master, []byte("one"), [16]byte{4}) {
			t.Errorf("%+v", got)
		}
	}
}
