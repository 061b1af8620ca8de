package chain_test

import (
	"bytes"
	"encoding/hex"
	"fmt"
	"math"
	"math/rand"
	"slices"
	"sync"
	"testing"

	"portcullis/api"
	"portcullis/chain"
)

var zero api.Hash

// event is one whose Digest has a number's bytes.
func event(n int, e api.Errno) api.Event {
	return api.Event{Digest: hashOf(number(int64(n), 8)), E: e}
}

// events are n, no two alike.
func events(n int) []api.Event {
	var l []api.Event
	for i := range n {
		l = append(l, event(i, api.Errno(i%20)))
	}
	return l
}

// logOf is a log to which events were added.
func logOf(t *testing.T, l []api.Event) *chain.Log {
	t.Helper()
	x := chain.New()
	if x == nil {
		t.Fatal("New: nil")
	}
	for i, e := range l {
		if got := x.Add(e); got != api.OK {
			t.Fatalf("Add of event %d: %v", i, got)
		}
	}
	return x
}

// holds asks a log all that it can be asked.
func holds(t *testing.T, x *chain.Log, l []api.Event) {
	t.Helper()
	if got := x.Events(); !slices.Equal(got, l) {
		t.Fatalf("Events: %v, want %v", got, l)
	}
	if got, want := x.Register(), register(l); got != want {
		t.Fatalf("Register of %d events: %x, want %x", len(l), got, want)
	}
	key, nonce := []byte("a key"), []byte("a nonce")
	if got, want := x.Quote(key, nonce), quote(key, nonce, l); got != want {
		t.Fatalf("Quote of %d events: %x, want %x", len(l), got, want)
	}
}

func checks(t *testing.T, key, nonce []byte, l []api.Event, q api.Hash, want api.Errno) {
	t.Helper()
	if got := chain.Check(key, nonce, l, q); got != want {
		t.Errorf("Check(%.20x, %.20x, %d events, %x): %v, want %v", key, nonce, len(l), q, got, want)
	}
}

func unhex(t *testing.T, s string) api.Hash {
	t.Helper()
	b, err := hex.DecodeString(s)
	if err != nil || len(b) != 32 {
		t.Fatal("no hash:", s)
	}
	return api.Hash(b)
}

// many are rows of events: none, one, alike ones, the same in another order, ones with odd errors.
func many() [][]api.Event {
	a, b, c := event(1, api.OK), event(2, api.ErrTag), api.Event{}
	return [][]api.Event{
		nil, {a}, {b}, {c}, {a, b}, {b, a}, {a, a}, {a, a, a}, {a, b, a}, {a, a, b}, {b, a, a}, {c, c}, {c, a}, {a, c}, {c, a, c},
		{{E: 1}}, {{E: -1}}, {{E: 256}}, {{E: 1 << 32}}, {{E: math.MinInt64}}, {{E: math.MaxInt64}}, {{E: math.MinInt64}, {E: math.MaxInt64}},
		{{Digest: api.Hash{1}}}, {{Digest: api.Hash{31: 1}}}, {{Digest: api.Hash{31: 1}, E: 1}}, {{Digest: api.Hash(bytes.Repeat([]byte{0xff}, 32)), E: -1}},
		events(7), events(40),
	}
}

// P16.1, P16.2: the chapter's examples.
func TestExamples(t *testing.T) {
	e, e1 := api.Event{}, api.Event{E: 1}
	measured := unhex(t, "2c34ce1df23b838c5abf2a7f6437cca3d3067ed509ff25f11df6b11b582b51eb")
	if got := chain.New().Register(); got != zero {
		t.Errorf("Register of no events: %x", got)
	}
	if got := chain.Measure(e); got != measured || got != hashOf(make([]byte, 40)) {
		t.Errorf("Measure: %x", got)
	}
	log := logOf(t, []api.Event{e})
	if got := log.Register(); got != chain.Extend(zero, measured) || got != unhex(t, "588f68694a822ac530692961daa5e4e2897dfba4a51039d9b851b6af6db39176") {
		t.Errorf("Register of e: %x", got)
	}
	key, nonce, other := []byte("key"), []byte("nonce"), []byte("another")
	q := log.Quote(key, nonce)
	if q != unhex(t, "6c3567c7d5450fd4d7167b524f45b41b0b081e77492d5608af56c041bc125692") {
		t.Errorf("Quote of e: %x", q)
	}
	for _, x := range []struct {
		nonce []byte
		l     []api.Event
		want  api.Errno
	}{
		{nonce, []api.Event{e}, api.OK}, {other, []api.Event{e}, api.ErrChain}, {nonce, nil, api.ErrChain}, {nonce, []api.Event{e, e}, api.ErrChain}, {nonce, []api.Event{e1}, api.ErrChain},
		{nonce, make([]api.Event, 1025), api.ErrMany},
	} {
		checks(t, key, x.nonce, x.l, q, x.want)
	}
	if got := logOf(t, make([]api.Event, 1024)).Add(e); got != api.ErrMany {
		t.Errorf("Add behind 1024 events: %v", got)
	}
}

// W8: the example 9 of the whole, as far as it is this layer's.
func TestExampleOfTheWhole(t *testing.T) {
	started := []api.Event{{Digest: hashOf([]byte("B")), E: api.OK}, {Digest: hashOf([]byte("a wrong one")), E: api.ErrTag}}
	key, nonce := []byte("key"), []byte("n")
	q := logOf(t, started).Quote(key, nonce)
	checks(t, key, nonce, started, q, api.OK)
	checks(t, key, nonce, started[:1], q, api.ErrChain)
	checks(t, key, nonce, started[1:], q, api.ErrChain)
}

// The document's numbers.
func TestNumbers(t *testing.T) {
	if api.OK != 0 || api.ErrMany != 3 || api.ErrChain != 19 || api.MaxEvents != 1024 {
		t.Error("another number")
	}
}

// P16.1: a log without events.
func TestNoEvents(t *testing.T) {
	x := chain.New()
	holds(t, x, nil)
	if len(x.Events()) != 0 || x.Register() != zero {
		t.Error("there are events, or they come to something")
	}
	want := unhex(t, "8bc2f2b32cc2f2910d6897b4bc440bb16eac00c46cb16df085cbbbc6e2fcfeed")
	for _, b := range [][]byte{nil, {}} {
		if got := x.Quote(b, b); got != want {
			t.Errorf("Quote: %x", got)
		}
		checks(t, b, b, nil, want, api.OK)
		checks(t, b, b, []api.Event{}, want, api.OK)
		checks(t, b, b, []api.Event{{}}, want, api.ErrChain)
		checks(t, b, b, nil, zero, api.ErrChain)
	}
}

// P16.1: what is added stands behind the others, whatever it is, and all is told at each point.
func TestAdd(t *testing.T) {
	for i, l := range many() {
		x := chain.New()
		for n, e := range l {
			holds(t, x, l[:n])
			if got := x.Add(e); got != api.OK {
				t.Fatalf("row %d: Add of event %d: %v", i, n, got)
			}
			holds(t, x, l[:n+1])
		}
	}
}

// P16.2: an event's hash, by hashes that were reckoned elsewhere.
func TestMeasure(t *testing.T) {
	for _, x := range []struct {
		e    api.Errno
		want string
	}{
		{0, "2c34ce1df23b838c5abf2a7f6437cca3d3067ed509ff25f11df6b11b582b51eb"},
		{19, "31062632d5f73416259cabcdf691439a5bd6165b828e0dc4d235936bbc93ea72"},
		{-1, "44877601a9bfc8f71d76dbaee2f6a11d0899b3f5cdaad15978247de80c7d2a44"},
		{math.MinInt64, "b996d3680514a333a8bd57a8b79b3006970aafca08130322409fb5f320a149af"},
		{math.MaxInt64, "bc8a42421b98b57ed1f07805ff1312abe46e04341b1720024a57f36900b28372"},
	} {
		if got := chain.Measure(api.Event{E: x.e}); got != unhex(t, x.want) {
			t.Errorf("Measure of E %d: %x", x.e, got)
		}
	}
	numbers := []api.Errno{1, 2, 15, 255, 256, 65535, 65536, 1<<31 - 1, 1 << 31, 1<<32 - 1, 1 << 32, 1 << 40, 1 << 48, 1 << 56, 1<<62 + 3, 0x0102030405060708}
	digests := []api.Hash{zero, {1}, {31: 1}, {31: 0x80}, hashOf([]byte("x")), api.Hash(bytes.Repeat([]byte{0xff}, 32))}
	for _, n := range numbers {
		for _, d := range digests {
			for _, e := range []api.Errno{n, -n, -n - 1, ^(-n)} {
				x := api.Event{Digest: d, E: e}
				if got := chain.Measure(x); got != eventHash(x) {
					t.Errorf("Measure(%v): %x", x, got)
				}
			}
		}
	}
}

// P16.2: a register and a hash, the one behind the other.
func TestExtend(t *testing.T) {
	hashes := []api.Hash{zero, {1}, {31: 1}, {31: 0x80}, hashOf([]byte("x")), hashOf([]byte("y")), api.Hash(bytes.Repeat([]byte{0xff}, 32))}
	for _, r := range hashes {
		for _, x := range hashes {
			if got := chain.Extend(r, x); got != hashOf(r[:], x[:]) {
				t.Errorf("Extend(%x, %x): %x", r, x, got)
			}
		}
	}
}

// P16.1, P16.2: of Add so many as may be, and no more; the log is then as it was.
func TestManyAdded(t *testing.T) {
	l := events(api.MaxEvents)
	x := logOf(t, l[:1023])
	holds(t, x, l[:1023])
	if got := x.Add(l[1023]); got != api.OK {
		t.Fatalf("Add of the event number 1024: %v", got)
	}
	holds(t, x, l)
	for _, e := range []api.Event{{}, l[0], l[1023], event(9999, api.OK)} {
		if got := x.Add(e); got != api.ErrMany {
			t.Errorf("Add of the event number 1025: %v", got)
		}
		holds(t, x, l)
	}
	key, nonce := []byte("k"), []byte("n")
	checks(t, key, nonce, x.Events(), x.Quote(key, nonce), api.OK)
}

// P16.2: of Check so many as may be; of more, ErrMany comes ahead of ErrChain, whatever the quote is.
func TestManyChecked(t *testing.T) {
	key, nonce := []byte("k"), []byte("n")
	l := events(1026)
	for _, n := range []int{1022, 1023, 1024} {
		q := quote(key, nonce, l[:n])
		checks(t, key, nonce, l[:n], q, api.OK)
		checks(t, key, nonce, l[:n-1], q, api.ErrChain)
		checks(t, key, nonce, l[1:n+1], q, api.ErrChain)
	}
	for _, n := range []int{1025, 1026} {
		for _, q := range []api.Hash{quote(key, nonce, l[:n]), quote(key, nonce, l[:1024]), quote(key, nonce, nil), zero, hashOf(nil)} {
			checks(t, key, nonce, l[:n], q, api.ErrMany)
			checks(t, nil, nil, l[:n], q, api.ErrMany)
		}
	}
	checks(t, key, nonce, make([]api.Event, 100000), zero, api.ErrMany)
}

// P16.4: the register behind each event is Extend of the one ahead of it, and that event's hash.
func TestRegisterByEvent(t *testing.T) {
	for i, l := range append(many(), events(200)) {
		x, ahead := chain.New(), zero
		for n, e := range l {
			x.Add(e)
			got := x.Register()
			if got != chain.Extend(ahead, chain.Measure(e)) {
				t.Fatalf("row %d, event %d: %x", i, n, got)
			}
			ahead = got
		}
	}
}

// P16.4: registers of unlike events are unlike; those of like ones are alike.
func TestUnlikeRegisters(t *testing.T) {
	seen := map[api.Hash][]api.Event{}
	for _, l := range everyShortRow() {
		r := logOf(t, l).Register()
		if other, ok := seen[r]; ok {
			t.Errorf("the register of %v is that of %v", l, other)
		}
		seen[r] = l
		if logOf(t, slices.Clone(l)).Register() != r {
			t.Errorf("two registers of %v", l)
		}
	}
}

// everyShortRow is all rows of at most three events out of a few that differ by little.
func everyShortRow() [][]api.Event {
	few := []api.Event{{}, {E: 1}, {E: -1}, {E: math.MinInt64}, {Digest: api.Hash{1}}, {Digest: api.Hash{31: 1}}, {Digest: api.Hash{1}, E: 1}}
	rows := [][]api.Event{nil}
	from := 0
	for range 3 {
		to := len(rows)
		for _, l := range rows[from:to] {
			for _, e := range few {
				rows = append(rows, append(slices.Clone(l), e))
			}
		}
		from = to
	}
	return rows
}

// edges are rows of bytes of the lengths at which something may turn: a length's bytes, HMAC's blocks.
func edges() [][]byte {
	l := [][]byte{nil, {}, {0}, {0xff}, []byte("nonce")}
	for _, n := range []int{2, 31, 32, 33, 63, 64, 65, 127, 128, 129, 255, 256, 257, 65535, 65536, 70000} {
		b := make([]byte, n)
		for i := range b {
			b[i] = byte(7*i + n)
		}
		l = append(l, b)
	}
	return l
}

// P16.1, P16.2: the quote is the tag of its bytes, whatever the key and the nonce.
func TestQuote(t *testing.T) {
	l := events(3)
	x := logOf(t, l)
	for _, key := range edges() {
		for _, nonce := range edges() {
			want := quote(key, nonce, l)
			if got := x.Quote(key, nonce); got != want {
				t.Fatalf("Quote by a key of %d bytes, a nonce of %d: %x, want %x", len(key), len(nonce), got, want)
			}
			checks(t, key, nonce, l, want, api.OK)
		}
	}
	for _, l := range many() {
		key, nonce := []byte{1, 2}, []byte{3, 4, 5}
		if got := logOf(t, l).Quote(key, nonce); got != quote(key, nonce, l) {
			t.Errorf("Quote of %v: %x", l, got)
		}
	}
}

// P16.1: the quote's bytes, written out one behind the other.
func TestQuoteBytes(t *testing.T) {
	l := events(300)
	r := register(l)
	nonce := bytes.Repeat([]byte{0xab}, 258)
	b := []byte("portcullis quote")
	b = append(b, 0, 2, 1, 0, 0)
	b = append(b, nonce...)
	b = append(b, 44, 1, 0, 0)
	b = append(b, r[:]...)
	if got := logOf(t, l).Quote([]byte("key"), nonce); got != tag([]byte("key"), b) {
		t.Errorf("Quote: %x", got)
	}
}

// P16.2, P16.3: a quote is taken for nothing else than what it was made of.
func TestOtherThings(t *testing.T) {
	key, nonce, l := []byte("the key"), []byte("the nonce"), events(6)
	q := logOf(t, l).Quote(key, nonce)
	checks(t, key, nonce, l, q, api.OK)
	for _, other := range [][]byte{nil, {}, {0}, key[:6], []byte("the kez"), []byte("the key!"), []byte("he key"), nonce, q[:]} {
		checks(t, other, nonce, l, q, api.ErrChain)
	}
	for _, other := range [][]byte{nil, {}, {0}, nonce[:8], nonce[1:], []byte("the noncf"), []byte("uhe nonce"), []byte("the nonce\x00"), []byte("\x00the nonce"), key, q[:]} {
		checks(t, key, other, l, q, api.ErrChain)
	}
	for i := range 256 {
		turned := q
		turned[i/8] ^= 1 << (i % 8)
		checks(t, key, nonce, l, turned, api.ErrChain)
	}
	for _, other := range []api.Hash{zero, register(l), eventHash(l[5]), tag(key, nonce), quote(nonce, key, l)} {
		checks(t, key, nonce, l, other, api.ErrChain)
	}
}

// P16.2, P16.3: not for an event more, less, changed, moved.
func TestOtherEvents(t *testing.T) {
	key, nonce, l := []byte("the key"), []byte("the nonce"), events(6)
	q := logOf(t, l).Quote(key, nonce)
	for i := range len(l) + 1 {
		checks(t, key, nonce, slices.Insert(slices.Clone(l), i, api.Event{}), q, api.ErrChain)
		checks(t, key, nonce, slices.Insert(slices.Clone(l), i, l[min(i, 5)]), q, api.ErrChain)
	}
	for i := range l {
		checks(t, key, nonce, slices.Delete(slices.Clone(l), i, i+1), q, api.ErrChain)
		checks(t, key, nonce, l[:i], q, api.ErrChain)
		for k := range i {
			moved := slices.Clone(l)
			moved[i], moved[k] = moved[k], moved[i]
			checks(t, key, nonce, moved, q, api.ErrChain)
		}
		for bit := range 256 {
			changed := slices.Clone(l)
			changed[i].Digest[bit/8] ^= 1 << (bit % 8)
			checks(t, key, nonce, changed, q, api.ErrChain)
		}
		for bit := range 64 {
			changed := slices.Clone(l)
			changed[i].E = api.Errno(uint64(changed[i].E) ^ 1<<bit)
			checks(t, key, nonce, changed, q, api.ErrChain)
		}
	}
}

// P16.3 (W8): of many events and nonces, each one's quote is taken for that one alone.
func TestEachAgainstEach(t *testing.T) {
	key := []byte("k")
	rows := many()
	nonces := [][]byte{nil, {0}, {0, 0}, {1}, []byte("n"), bytes.Repeat([]byte{0}, 36)}
	for i, l := range rows {
		for n, nonce := range nonces {
			q := logOf(t, l).Quote(key, nonce)
			for k, other := range rows {
				for m, otherNonce := range nonces {
					want := api.ErrChain
					if i == k && n == m {
						want = api.OK
					}
					checks(t, key, otherNonce, other, q, want)
				}
			}
		}
	}
}

// P16.3: nonces and events that would be the same bytes, joined, if their lengths did not stand ahead of them.
func TestJoined(t *testing.T) {
	key, nonce := []byte("k"), []byte("n")
	l := events(3)
	plain := func(e api.Event) []byte { return append(slices.Clone(e.Digest[:]), number(int64(e.E), 8)...) }
	hash := func(e api.Event) []byte { h := eventHash(e); return h[:] }
	first, second := register(l[:1]), register(l[:2])
	type asked struct {
		nonce []byte
		l     []api.Event
	}
	joined := []asked{
		{nonce, l},
		{slices.Concat(nonce, plain(l[0])), l[1:]},
		{slices.Concat(nonce, plain(l[0]), plain(l[1])), l[2:]},
		{slices.Concat(nonce, hash(l[0])), l[1:]},
		{slices.Concat(nonce, hash(l[0]), hash(l[1])), l[2:]},
		{slices.Concat(nonce, first[:]), l[1:]},
		{slices.Concat(nonce, second[:]), l[2:]},
		{slices.Concat(nonce, number(3, 4)), l},
		{slices.Concat(number(1, 4), nonce), l},
		{slices.Concat(number(5, 4), nonce, number(3, 4)), l},
		{slices.Concat(nonce, number(0, 4), zero[:]), l},
		{slices.Concat(nonce, number(1, 4), first[:]), l[1:]},
		{nil, append([]api.Event{{Digest: api.Hash{'n'}}}, l...)},
		{nil, l},
		{quoted(nonce, l), nil},
		{quoted(nonce, l), l},
	}
	for i, x := range joined {
		q := logOf(t, x.l).Quote(key, x.nonce)
		for k, y := range joined {
			want := api.ErrChain
			if i == k {
				want = api.OK
			}
			checks(t, key, y.nonce, y.l, q, want)
		}
	}
}

// P16.3: nor do a key and a nonce run into one another; keys that are one block key are one key to mac, so to Check.
func TestKeysBesideNonces(t *testing.T) {
	l := events(2)
	q := logOf(t, l).Quote([]byte("ab"), []byte("c"))
	checks(t, []byte("a"), []byte("bc"), l, q, api.ErrChain)
	checks(t, []byte("abc"), nil, l, q, api.ErrChain)
	checks(t, nil, []byte("abc"), l, q, api.ErrChain)
	checks(t, []byte("ab\x00"), []byte("c"), l, q, api.OK)
	long := bytes.Repeat([]byte{5}, 65)
	short := hashOf(long)
	checks(t, short[:], nil, l, logOf(t, l).Quote(long, nil), api.OK)
}

// P16.1: logs beside one another don't touch one another.
func TestLogsApart(t *testing.T) {
	draw := rand.New(rand.NewSource(16))
	logs := make([]*chain.Log, 5)
	want := make([][]api.Event, len(logs))
	for i := range logs {
		logs[i] = chain.New()
	}
	for n := range 300 {
		i := draw.Intn(len(logs))
		e := event(draw.Intn(10), api.Errno(draw.Intn(20)))
		if got := logs[i].Add(e); got != api.OK {
			t.Fatalf("Add: %v", got)
		}
		want[i] = append(want[i], e)
		if n%30 == 0 {
			for k, x := range logs {
				holds(t, x, want[k])
			}
		}
	}
	for k, x := range logs {
		holds(t, x, want[k])
	}
}

// P16.1 to P16.3: rows, keys and nonces drawn by lot.
func TestDrawn(t *testing.T) {
	draw := rand.New(rand.NewSource(1616))
	row := func(n int) []byte {
		b := make([]byte, draw.Intn(n))
		draw.Read(b)
		return b
	}
	for range 300 {
		l := make([]api.Event, draw.Intn(30))
		for i := range l {
			draw.Read(l[i].Digest[:])
			l[i].E = api.Errno(draw.Uint64())
		}
		x := logOf(t, l)
		holds(t, x, l)
		key, nonce := row(200), row(400)
		q := x.Quote(key, nonce)
		if q != quote(key, nonce, l) {
			t.Fatalf("Quote: %x", q)
		}
		checks(t, key, nonce, l, q, api.OK)
		checks(t, key, append(nonce, 0), l, q, api.ErrChain)
		checks(t, append(key, 1), nonce, l, q, api.ErrChain)
		q[draw.Intn(32)] ^= 1 << draw.Intn(8)
		checks(t, key, nonce, l, q, api.ErrChain)
	}
}

// P16.5: keys, nonces and events stay as they were, also in the room behind their length, and none is kept.
func TestHandedIn(t *testing.T) {
	roomy := func(b byte) []byte { return bytes.Repeat([]byte{b}, 300)[:100] }
	key, nonce := roomy(1), roomy(2)
	l := slices.Grow(events(10), 2000)
	behind := l[:cap(l)]
	for i := len(l); i < len(behind); i++ {
		behind[i] = event(i, 5)
	}
	was := slices.Clone(behind)
	x := logOf(t, l)
	q := x.Quote(key, nonce)
	checks(t, key, nonce, l, q, api.OK)
	checks(t, key, nonce, l[:9], q, api.ErrChain)
	checks(t, key, nonce, behind[:1025], q, api.ErrMany)
	if !slices.Equal(behind, was) {
		t.Error("the events have changed")
	}
	if !bytes.Equal(key[:300], bytes.Repeat([]byte{1}, 300)) || !bytes.Equal(nonce[:300], bytes.Repeat([]byte{2}, 300)) {
		t.Error("the key or the nonce has changed")
	}
	clear(behind)
	clear(key[:300])
	clear(nonce[:300])
	holds(t, x, was[:10])
	if got := x.Quote(bytes.Repeat([]byte{1}, 100), bytes.Repeat([]byte{2}, 100)); got != q {
		t.Error("the quote has changed with what was handed in")
	}
	checks(t, key, nonce, l, q, api.ErrChain)
}

// P16.5: what Events answers is its owner's.
func TestHandedOut(t *testing.T) {
	for _, n := range []int{0, 1, 3, 4, 5, 8, 100, 1023, 1024} {
		l := events(n)
		x := logOf(t, l)
		got, other := x.Events(), x.Events()
		_ = append(got, event(-1, 1), event(-2, 2))
		spoil(got)
		if !slices.Equal(other, l) {
			t.Fatalf("of %d events: an answer is written over with another one", n)
		}
		holds(t, x, l)
		kept := x.Events()
		if n < api.MaxEvents {
			l = append(l, event(7777, api.ErrKey))
			x.Add(l[n])
		}
		spoil(got)
		holds(t, x, l)
		if !slices.Equal(kept, l[:n]) {
			t.Fatalf("of %d events: an answer has changed by what was added behind it", n)
		}
		spoil(other)
		spoil(kept)
		holds(t, x, l)
	}
}

// spoil writes over a list, and over the room behind it.
func spoil(l []api.Event) {
	l = l[:cap(l)]
	for i := range l {
		l[i] = api.Event{Digest: api.Hash{0xee}, E: -99}
	}
}

// R4: the same asked again, in between and by many at one time, is answered alike.
func TestOneAnswer(t *testing.T) {
	l, key, nonce := events(50), []byte("key"), []byte("nonce")
	x := logOf(t, l)
	q := quote(key, nonce, l)
	var all sync.WaitGroup
	wrong := make([]string, 8)
	for i := range wrong {
		all.Add(1)
		go func() {
			defer all.Done()
			for range 20 {
				if x.Quote(key, nonce) != q || x.Register() != register(l) || !slices.Equal(x.Events(), l) {
					wrong[i] = fmt.Sprint("the log's answers, asked by ", i)
				}
				if chain.Check(key, nonce, l, q) != api.OK || chain.Check(key, nil, l, q) != api.ErrChain {
					wrong[i] = fmt.Sprint("Check, asked by ", i)
				}
			}
		}()
	}
	all.Wait()
	for _, w := range wrong {
		if w != "" {
			t.Error(w)
		}
	}
	holds(t, x, l)
}
