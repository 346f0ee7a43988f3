package argon

import (
	"bytes"
	"crypto/sha256"
	"encoding/binary"
	"encoding/hex"
	"math"
	"slices"
	"testing"

	"casket/api"
	"casket/blake"
	"casket/mix"
	"casket/sample"
)

// example is the secret of the chapter's example, which is the standard's.
func example() (api.Params, api.Secret) {
	return api.Params{Time: 3, Memory: 32, Lanes: 4}, api.Secret{
		Password: bytes.Repeat([]byte{1}, 32), Salt: bytes.Repeat([]byte{2}, 16),
		Key: bytes.Repeat([]byte{3}, 8), Data: bytes.Repeat([]byte{4}, 12),
	}
}

// keyOf is a key that is not refused.
func keyOf(t *testing.T, n int, p api.Params, s api.Secret) []byte {
	t.Helper()
	k, e := Key(n, p, s)
	if e != api.OK || len(k) != n {
		t.Fatalf("Key of %d bytes, %v: %d bytes, %d", n, p, len(k), e)
	}
	return k
}

func seedOf(t *testing.T, n int, p api.Params, s api.Secret) []byte {
	t.Helper()
	seed, e := Seed(n, p, s)
	if e != api.OK || len(seed) != 64 {
		t.Fatalf("Seed of %d bytes, %v: %d bytes, %d", n, p, len(seed), e)
	}
	return seed
}

// secretOf has texts of these lengths.
func secretOf(password, salt, key, data int) api.Secret {
	b := sample.Bytes(2000)
	return api.Secret{Password: b[:password], Salt: b[600 : 600+salt], Key: b[700 : 700+key], Data: b[800 : 800+data]}
}

// cloned is the same secret in memory of its own.
func cloned(s api.Secret) api.Secret {
	return api.Secret{Password: bytes.Clone(s.Password), Salt: bytes.Clone(s.Salt), Key: bytes.Clone(s.Key), Data: bytes.Clone(s.Data)}
}

// paramsToTry are parameters that may be: all edges, and some between.
func paramsToTry() []api.Params {
	var list []api.Params
	for _, time := range []int{1, 2, 3, 8} {
		for lanes := 1; lanes <= 4; lanes++ {
			for _, memory := range []int{8 * lanes, 8*lanes + 1, 12*lanes - 1, 12 * lanes, 100, 255, 256} {
				list = append(list, api.Params{Time: time, Memory: memory, Lanes: lanes})
			}
		}
	}
	return list
}

// wordedSeed is the seed as the chapter words it.
func wordedSeed(n int, p api.Params, s api.Secret) []byte {
	var b []byte
	for _, value := range []int{p.Lanes, n, p.Memory, p.Time, 0x13, 2} {
		b = binary.LittleEndian.AppendUint32(b, uint32(value))
	}
	for _, text := range [][]byte{s.Password, s.Salt, s.Key, s.Data} {
		b = append(binary.LittleEndian.AppendUint32(b, uint32(len(text))), text...)
	}
	seed, _ := blake.Sum(64, nil, b)
	return seed
}

// wordedMemory is all pages of one pass behind the other, as the chapter words it; lane l has the pages from l q on.
func wordedMemory(p api.Params, seed []byte) ([]api.Page, int) {
	q := 4 * (p.Memory / (4 * p.Lanes))
	quarter := q / 4
	pages, made := make([]api.Page, q*p.Lanes), make([]bool, q*p.Lanes)
	for l := range p.Lanes {
		for i := range 2 {
			b, _ := mix.Long(1024, seed, []byte{byte(i), 0, 0, 0, byte(l), 0, 0, 0})
			pages[l*q+i], _ = mix.Page(b)
			made[l*q+i] = true
		}
	}
	for step := range p.Time * 4 * p.Lanes * quarter {
		place, lane, slice, pass := step%quarter, step/quarter%p.Lanes, step/quarter/p.Lanes%4, step/quarter/p.Lanes/4
		here := slice*quarter + place
		if pass == 0 && here < 2 {
			continue
		}
		ahead := pages[lane*q+(here+q-1)%q]
		w := ahead[0]
		if pass == 0 && slice < 2 {
			z := api.Page{uint64(pass), uint64(lane), uint64(slice), uint64(len(pages)), uint64(p.Time), 2, uint64(1 + place/128)}
			w = mix.Pages(api.Page{}, mix.Pages(api.Page{}, z))[place%128]
		}
		other := int(w >> 32 % uint64(p.Lanes))
		if pass == 0 && slice == 0 {
			other = lane
		}
		window := wordedWindow(q, pass, slice, place, other == lane)
		from := other*q + window[mix.Which(len(window), uint32(w))]
		if !made[from] {
			panic("a page is used that is not made yet")
		}
		mixed := mix.Pages(ahead, pages[from])
		for i := range mixed {
			if pass > 0 {
				mixed[i] ^= pages[lane*q+here][i]
			}
		}
		pages[lane*q+here], made[lane*q+here] = mixed, true
	}
	return pages, q
}

// wordedWindow is the pages of a lane that may be used, one by one.
func wordedWindow(q, pass, slice, place int, own bool) []int {
	quarter := q / 4
	var window []int
	if pass == 0 {
		for page := range slice * quarter {
			window = append(window, page)
		}
	} else {
		for i := range q - quarter {
			window = append(window, ((slice+1)*quarter+i)%q)
		}
	}
	if own {
		for i := range place {
			window = append(window, slice*quarter+i)
		}
	}
	if own || place == 0 {
		window = window[:len(window)-1]
	}
	return window
}

// wordedKey is the key as the chapter words it.
func wordedKey(n int, p api.Params, s api.Secret) []byte {
	pages, q := wordedMemory(p, wordedSeed(n, p, s))
	var b []byte
	for i := range 128 {
		var sum uint64
		for l := range p.Lanes {
			sum ^= pages[l*q+q-1][i]
		}
		b = binary.LittleEndian.AppendUint64(b, sum)
	}
	key, _ := mix.Long(n, b)
	return key
}

// P8.1: the chapter's example, with the seed that the standard has beside it.
func TestExample(t *testing.T) {
	p, s := example()
	if got := hex.EncodeToString(keyOf(t, 32, p, s)); got != "0d640df58d78766c08c037a34a8b53c9d01ef0452d75b65eb52520e96b01e659" {
		t.Errorf("the key: %s", got)
	}
	want := "2889de487eb42ae500c0007ed9252f1069eadec40d5765b485de6dc2437a67b8546a2f0acc1a0882db8fcf74714b472e94df421a5da1112ffa11434370a1e997"
	if got := hex.EncodeToString(seedOf(t, 32, p, s)); got != want {
		t.Errorf("the seed: %s, not %s", got, want)
	}
}

// P8.1: keys that the library of Argon2's authors tells.
func TestKnownKeys(t *testing.T) {
	s := api.Secret{Password: []byte("password"), Salt: []byte("somesalt")}
	for _, x := range []struct {
		p    api.Params
		want string
	}{
		{api.Params{Time: 1, Memory: 64, Lanes: 1}, "655ad15eac652dc59f7170a7332bf49b8469be1fdb9c28bb"},
		{api.Params{Time: 2, Memory: 64, Lanes: 1}, "068d62b26455936aa6ebe60060b0a65870dbfa3ddf8d41f7"},
		{api.Params{Time: 2, Memory: 64, Lanes: 2}, "350ac37222f436ccb5c0972f1ebd3bf6b958bf2071841362"},
		{api.Params{Time: 3, Memory: 256, Lanes: 2}, "4668d30ac4187e6878eedeacf0fd83c5a0a30db2cc16ef0b"},
		{api.Params{Time: 4, Memory: 256, Lanes: 4}, "fbd40d5a8cb92f88c20bda4b3cdb1f9d5af1efa937032410"},
		{api.Params{Time: 1, Memory: 8, Lanes: 1}, "0b66c95f90bc503132840eade592ec0235342f52206e5cec"},
		{api.Params{Time: 8, Memory: 32, Lanes: 4}, "9392374023f0870fd9b88f695e3bc0afcac8982a3b18e37a"},
	} {
		if got := hex.EncodeToString(keyOf(t, 24, x.p, s)); got != x.want {
			t.Errorf("%v: %s, not %s", x.p, got, x.want)
		}
	}
}

// P8.1: all passes and lanes, with memories of every kind and secrets of many lengths; the digest of all keys is as that library has it.
func TestManyParameters(t *testing.T) {
	all := sha256.New()
	for time := 1; time <= 8; time++ {
		for lanes := 1; lanes <= 4; lanes++ {
			for memory := 8 * lanes; memory <= 256; memory += 11 {
				p := api.Params{Time: time, Memory: memory, Lanes: lanes}
				s := secretOf((memory*7+time)%513, 8+(memory+lanes)%57, memory*3%65, (memory*5+time)%65)
				all.Write(keyOf(t, 4+(time*31+lanes*17+memory)%125, p, s))
			}
		}
	}
	if got := hex.EncodeToString(all.Sum(nil)); got != "15026e5571e7fc9bb2b625e27edae2442f77dfb7e854916367ac5ff51bbf78bc" {
		t.Errorf("the digest of all keys: %s", got)
	}
}

// P8.1: as the chapter words it.
func TestKey(t *testing.T) {
	source := sample.Source(1)
	for _, p := range paramsToTry() {
		n := 4 + source.Below(125)
		s := secretOf(source.Below(513), 8+source.Below(57), source.Below(65), source.Below(65))
		if got, want := keyOf(t, n, p, s), wordedKey(n, p, s); !bytes.Equal(got, want) {
			t.Errorf("%d bytes, %v: %x, not %x", n, p, got, want)
		}
	}
}

// P8.1: a key of each length.
func TestKeyLengths(t *testing.T) {
	p, s := api.Params{Time: 1, Memory: 8, Lanes: 1}, secretOf(20, 16, 0, 0)
	for n := 4; n <= 128; n++ {
		if got, want := keyOf(t, n, p, s), wordedKey(n, p, s); !bytes.Equal(got, want) {
			t.Errorf("%d bytes: %x, not %x", n, got, want)
		}
	}
}

// P8.1
func TestSeed(t *testing.T) {
	source := sample.Source(2)
	for _, p := range paramsToTry() {
		for _, n := range []int{4, 5, 64, 127, 128} {
			s := secretOf(source.Below(513), 8+source.Below(57), source.Below(65), source.Below(65))
			if got, want := seedOf(t, n, p, s), wordedSeed(n, p, s); !bytes.Equal(got, want) {
				t.Errorf("%d bytes, %v: %x, not %x", n, p, got, want)
			}
		}
	}
}

// mayBe tells of parameters what the chapter does.
func mayBe(p api.Params) bool {
	return 1 <= p.Time && p.Time <= 8 && 1 <= p.Lanes && p.Lanes <= 4 && 8*p.Lanes <= p.Memory && p.Memory <= 256
}

// P8.1: all parameters from below the limits to beyond them.
func TestCheck(t *testing.T) {
	for time := -2; time <= 11; time++ {
		for lanes := -2; lanes <= 7; lanes++ {
			for memory := -20; memory <= 300; memory++ {
				p := api.Params{Time: time, Memory: memory, Lanes: lanes}
				want, pages := api.ErrParam, 0
				if mayBe(p) {
					want, pages = api.OK, lanes*4*(memory/(4*lanes))
				}
				if got := Check(p); got != want {
					t.Fatalf("Check(%v) = %d, not %d", p, got, want)
				}
				if got := Pages(p); got != pages {
					t.Fatalf("Pages(%v) = %d, not %d", p, got, pages)
				}
			}
		}
	}
}

// P8.1
func TestPages(t *testing.T) {
	for _, x := range []struct{ memory, lanes, want int }{
		{8, 1, 8}, {11, 1, 8}, {12, 1, 12}, {15, 1, 12}, {255, 1, 252}, {256, 1, 256},
		{16, 2, 16}, {23, 2, 16}, {24, 2, 24}, {255, 2, 248}, {256, 2, 256},
		{24, 3, 24}, {35, 3, 24}, {36, 3, 36}, {255, 3, 252}, {256, 3, 252},
		{32, 4, 32}, {47, 4, 32}, {48, 4, 48}, {255, 4, 240}, {256, 4, 256},
	} {
		for time := 1; time <= 8; time++ {
			if got := Pages(api.Params{Time: time, Memory: x.memory, Lanes: x.lanes}); got != x.want {
				t.Errorf("Memory %d, Lanes %d, Time %d: %d pages, not %d", x.memory, x.lanes, time, got, x.want)
			}
		}
	}
}

// refusedParams are parameters that may not be.
func refusedParams() []api.Params {
	list := []api.Params{{}, {Time: 1, Memory: 15, Lanes: 2}, {Time: 1, Memory: 31, Lanes: 4}}
	for _, bad := range []int{math.MinInt, math.MinInt32, -1, 0, 1 << 16, 1 << 32, 1<<32 + 1, 1 << 61, 1<<61 + 1, 1 << 62, math.MaxInt} {
		list = append(list, api.Params{Time: bad, Memory: 64, Lanes: 1}, api.Params{Time: 1, Memory: bad, Lanes: 1}, api.Params{Time: 1, Memory: 64, Lanes: bad}, api.Params{Time: bad, Memory: bad, Lanes: bad})
	}
	return append(list, api.Params{Time: 9, Memory: 64, Lanes: 1}, api.Params{Time: 1, Memory: 7, Lanes: 1}, api.Params{Time: 1, Memory: 257, Lanes: 1}, api.Params{Time: 1, Memory: 256, Lanes: 5})
}

// refused tells whether both calls refuse.
func refused(n int, p api.Params, s api.Secret) bool {
	key, e := Key(n, p, s)
	seed, f := Seed(n, p, s)
	return len(key) == 0 && len(seed) == 0 && e == api.ErrParam && f == api.ErrParam
}

// P8.1
func TestRefusedParams(t *testing.T) {
	_, s := example()
	for _, p := range refusedParams() {
		if Check(p) != api.ErrParam || Pages(p) != 0 || !refused(32, p, s) {
			t.Errorf("%v is not refused", p)
		}
		if !refused(3, p, api.Secret{}) {
			t.Errorf("%v is not refused beside other faults", p)
		}
	}
}

// P8.1
func TestRefusedLengths(t *testing.T) {
	p, s := example()
	for _, n := range []int{math.MinInt, math.MinInt32, -128, -4, -1, 0, 1, 2, 3, 129, 130, 256, 1 << 16, 1 << 32, 1<<32 + 32, math.MaxInt} {
		if !refused(n, p, s) {
			t.Errorf("a key of %d bytes is not refused", n)
		}
	}
}

// P8.1: texts of lengths that may not be are refused, and those at the limits are not.
func TestRefusedSecrets(t *testing.T) {
	p := api.Params{Time: 1, Memory: 8, Lanes: 1}
	long := make([]byte, 1<<16)
	for _, n := range []int{513, 514, 1024, 1 << 16} {
		s := secretOf(0, 8, 0, 0)
		if s.Password = long[:n]; !refused(32, p, s) {
			t.Errorf("a password of %d bytes is not refused", n)
		}
	}
	for _, n := range []int{0, 1, 7, 65, 66, 128, 256 + 8, 1 << 16} {
		s := secretOf(8, 0, 0, 0)
		if s.Salt = long[:n]; !refused(32, p, s) {
			t.Errorf("a salt of %d bytes is not refused", n)
		}
	}
	for _, n := range []int{65, 66, 128, 256, 1 << 16} {
		s := secretOf(8, 8, 0, 0)
		if s.Key = long[:n]; !refused(32, p, s) {
			t.Errorf("a key of %d bytes is not refused", n)
		}
		s.Key, s.Data = nil, long[:n]
		if !refused(32, p, s) {
			t.Errorf("data of %d bytes is not refused", n)
		}
	}
	for _, s := range []api.Secret{secretOf(0, 8, 0, 0), secretOf(512, 64, 64, 64), secretOf(512, 8, 64, 0), secretOf(0, 64, 0, 64)} {
		for _, n := range []int{4, 128} {
			if got, want := keyOf(t, n, p, s), wordedKey(n, p, s); !bytes.Equal(got, want) {
				t.Errorf("texts of %d, %d, %d, %d bytes: %x, not %x", len(s.Password), len(s.Salt), len(s.Key), len(s.Data), got, want)
			}
		}
	}
}

// P8.2: each byte of each text, and each length.
func TestKeyHangsOnTheSecret(t *testing.T) {
	p := api.Params{Time: 1, Memory: 8, Lanes: 1}
	first := secretOf(20, 16, 10, 12)
	secrets := []api.Secret{first}
	for _, text := range []func(*api.Secret) *[]byte{
		func(s *api.Secret) *[]byte { return &s.Password },
		func(s *api.Secret) *[]byte { return &s.Salt },
		func(s *api.Secret) *[]byte { return &s.Key },
		func(s *api.Secret) *[]byte { return &s.Data },
	} {
		for i := range *text(&first) {
			s := cloned(first)
			(*text(&s))[i] ^= 1
			secrets = append(secrets, s)
		}
		longer, shorter := cloned(first), cloned(first)
		*text(&longer) = append(*text(&longer), 0)
		*text(&shorter) = (*text(&shorter))[1:]
		secrets = append(secrets, longer, shorter)
	}
	// The same bytes in all, with other ends of the texts.
	all := slices.Concat(first.Password, first.Salt, first.Key, first.Data)
	secrets = append(secrets,
		api.Secret{Password: all[:19], Salt: all[19:36], Key: all[36:46], Data: all[46:]},
		api.Secret{Password: all[:20], Salt: all[20:35], Key: all[35:46], Data: all[46:]},
		api.Secret{Password: all[:20], Salt: all[20:36], Key: all[36:45], Data: all[45:]},
		api.Secret{Password: all[:20], Salt: all[20:36], Key: all[36:]},
		api.Secret{Password: all[:20], Salt: all[20:36], Data: all[36:]},
	)
	keys, seeds := map[string]int{}, map[string]int{}
	for _, s := range secrets {
		keys[string(keyOf(t, 32, p, s))]++
		seeds[string(seedOf(t, 32, p, s))]++
	}
	if len(keys) != len(secrets) || len(seeds) != len(secrets) {
		t.Errorf("%d secrets have %d keys, %d seeds", len(secrets), len(keys), len(seeds))
	}
}

// P8.2: parameters that make as many pages are others, too.
func TestKeyHangsOnTheParameters(t *testing.T) {
	_, s := example()
	list := paramsToTry()
	unlike, keys, seeds := map[api.Params]int{}, map[string]int{}, map[string]int{}
	for _, p := range list {
		unlike[p]++
		keys[string(keyOf(t, 32, p, s))]++
		seeds[string(seedOf(t, 32, p, s))]++
	}
	if len(keys) != len(unlike) || len(seeds) != len(unlike) {
		t.Errorf("%d parameters have %d keys, %d seeds", len(unlike), len(keys), len(seeds))
	}
}

// P8.2: a shorter key is not the beginning of a longer one.
func TestKeyHangsOnItsLength(t *testing.T) {
	p, s := example()
	longest := keyOf(t, 128, p, s)
	for n := 8; n < 128; n++ {
		if bytes.Equal(keyOf(t, n, p, s), longest[:n]) || bytes.Equal(seedOf(t, n, p, s), seedOf(t, 128, p, s)) {
			t.Errorf("%d bytes are the beginning of 128", n)
		}
	}
}

// P8.2: a text that is nil is an empty one; keys that were asked for ahead change nothing.
func TestKeyHangsOnNothingElse(t *testing.T) {
	p := api.Params{Time: 2, Memory: 20, Lanes: 2}
	s := api.Secret{Salt: []byte("somesalt")}
	first := keyOf(t, 32, p, s)
	_, other := example()
	keyOf(t, 16, api.Params{Time: 1, Memory: 256, Lanes: 4}, other)
	Key(0, p, s)
	s.Password, s.Key, s.Data = []byte{}, []byte{}, make([]byte, 0, 9)
	if got := keyOf(t, 32, p, s); !bytes.Equal(got, first) {
		t.Errorf("%x, not %x", got, first)
	}
}

// R3: what is handed in is neither changed nor kept, nor is the room behind its end.
func TestArgumentsAreLeftAlone(t *testing.T) {
	p, _ := example()
	room := sample.Bytes(600)
	s := api.Secret{Password: room[:100], Salt: room[200:220], Key: room[300:310], Data: room[400:405]}
	want := wordedKey(32, p, s)
	key, seed := keyOf(t, 32, p, s), seedOf(t, 32, p, s)
	kept := bytes.Clone(seed)
	if !bytes.Equal(room, sample.Bytes(600)) {
		t.Error("the secret has changed")
	}
	clear(room)
	if !bytes.Equal(key, want) || !bytes.Equal(seed, kept) {
		t.Error("an answer hangs on the caller's bytes")
	}
}

// R3: an answer is new memory, with nothing in the room behind it.
func TestAnswersAreNew(t *testing.T) {
	p, s := example()
	if fault := sample.NotNew(func() []byte { return seedOf(t, 32, p, s) }); fault != "" {
		t.Errorf("the seed: %s", fault)
	}
	for _, n := range []int{4, 33, 64, 128} {
		if fault := sample.NotNew(func() []byte { return keyOf(t, n, p, s) }); fault != "" {
			t.Errorf("a key of %d bytes: %s", n, fault)
		}
	}
}

// R4: a key hangs on the arguments alone, whoever asks beside it.
func TestManyAtOnce(t *testing.T) {
	p, s := example()
	want := wordedKey(32, p, s)
	answers := make(chan []byte)
	for i := range 8 {
		go func() {
			for j := range 5 {
				Key(16, api.Params{Time: 1 + i, Memory: 64 + j, Lanes: 1 + j%4}, s)
			}
			got, _ := Key(32, p, s)
			answers <- got
		}()
	}
	for range 8 {
		if got := <-answers; !bytes.Equal(got, want) {
			t.Errorf("beside others: %x, not %x", got, want)
		}
	}
}
