package token_test

import (
	"math"
	"math/rand"
	"slices"
	"strings"
	"testing"

	"portcullis/api"
	"portcullis/mac"
	"portcullis/token"
)

// The numbers of kinds and errors are those that the document gives.
func TestNumbers(t *testing.T) {
	kinds := []int{token.None, token.Slot, token.Version, token.Kinds, token.Least, token.Most}
	if !slices.Equal(kinds, upTo(6)) {
		t.Errorf("kinds: %v", kinds)
	}
	errs := []api.Errno{api.OK, api.ErrArg, api.ErrRange, api.ErrMany, api.ErrBytes, api.ErrForm, api.ErrShort, api.ErrRest, api.ErrPower, api.ErrState, api.ErrKind, api.ErrKey, api.ErrRevoked, api.ErrTag, api.ErrVersion}
	if !slices.Equal(errs, []api.Errno{0, 1, 2, 3, 4, 5, 6, 7, 8, 11, 12, 13, 14, 15, 16}) {
		t.Errorf("errors: %v", errs)
	}
	if api.MaxSlots != mostSlots || api.MaxKeys != mostKeys {
		t.Errorf("limits: %d %d", api.MaxSlots, api.MaxKeys)
	}
}

// The edges of caveats are sorted as the chapter's table has it.
func TestCaveatsSorted(t *testing.T) {
	right, wrong := caveats()
	if i := slices.IndexFunc(right, func(c token.Caveat) bool { return !may(c) }); i >= 0 {
		t.Errorf("%+v may not be", right[i])
	}
	if i := slices.IndexFunc(wrong, may); i >= 0 {
		t.Errorf("%+v may be", wrong[i])
	}
}

// P24.1: Issue, with each ring, key and ID: ErrKey comes ahead of ErrBytes.
func TestIssue(t *testing.T) {
	ids := [][]byte{nil, {}, {0}, {0xff}, []byte("id"), make([]byte, 63), make([]byte, 64), make([]byte, 65), make([]byte, 66), make([]byte, 256), make([]byte, 257), make([]byte, 320), make([]byte, 1<<16+1)}
	for _, known := range [][]int{nil, {1}, {0}, {63}, {5, 3, 40}, upTo(mostKeys)} {
		ring := ringOf(t, known...)
		for _, key := range append(ints(), upTo(mostKeys)...) {
			for _, id := range ids {
				want := api.OK
				switch {
				case !slices.Contains(known, key):
					want = api.ErrKey
				case len(id) < 1 || len(id) > 64:
					want = api.ErrBytes
				}
				x, e := token.Issue(ring, key, id)
				if e != want {
					t.Fatalf("Issue(%d, %d bytes), of the keys %v: %v, want %v", key, len(id), known, e, want)
				}
				if e != api.OK && !isZero(x) {
					t.Fatalf("Issue(%d, %d bytes): %+v beside %v", key, len(id), x, e)
				}
				if e == api.OK && !same(x, made(key, string(id))) {
					t.Fatalf("Issue(%d, %x): %+v", key, id, x)
				}
			}
		}
	}
}

// P24.1: IDs of each length, of any bytes.
func TestIssueAnyID(t *testing.T) {
	r := rand.New(rand.NewSource(241))
	ring := ringOf(t, upTo(mostKeys)...)
	for range 10 {
		for n := range 70 {
			key, id := r.Intn(mostKeys), anyBytes(r, n)
			x, e := token.Issue(ring, key, id)
			if n < 1 || n > 64 {
				if e != api.ErrBytes || !isZero(x) {
					t.Fatalf("an ID of %d bytes: %+v, %v", n, x, e)
				}
			} else if e != api.OK || !same(x, made(key, string(id))) {
				t.Fatalf("Issue(%d, %x): %+v, %v", key, id, x, e)
			}
		}
	}
}

// P24.1: a tag hangs on the secret, not on the key's number.
func TestIssueSecrets(t *testing.T) {
	x, _ := token.Issue(ringOf(t, 9), 9, []byte("id"))
	if want := mac.Of(secretOf(9), []byte("portcullis token\x00\x02id")); x.Tag != want {
		t.Errorf("%x, want %x", x.Tag, want)
	}
}

// narrows makes sure what Narrow answers, and that it leaves the token as it was.
func narrows(t *testing.T, x token.Token, c token.Caveat) (token.Token, api.Errno) {
	t.Helper()
	want := token.Token{Key: x.Key, ID: x.ID, Caveats: slices.Concat(x.Caveats, []token.Caveat{c}), Tag: tagOf(x.Tag[:], told(c))}
	is := api.OK
	if len(x.Caveats) >= 32 {
		want, is = token.Token{}, api.ErrMany
	} else if !may(c) {
		want, is = token.Token{}, api.ErrArg
	}
	was := again(x)
	y, e := x.Narrow(c)
	if e != is || !same(y, want) {
		t.Fatalf("%+v, narrowed by %+v: %+v, %v, want %+v, %v", x, c, y, e, want, is)
	}
	if !same(x, was) {
		t.Fatalf("%+v has become %+v", was, x)
	}
	return y, e
}

// P24.1: Narrow by each caveat at the document's edges.
func TestNarrow(t *testing.T) {
	right, wrong := caveats()
	for _, x := range []token.Token{made(1, "id"), made(1, "id", oneOfEach()...)} {
		for _, c := range right {
			if y, e := narrows(t, x, c); e != api.OK || !same(y, made(1, "id", append(slices.Clone(x.Caveats), c)...)) {
				t.Fatalf("%+v: %v", c, e)
			}
		}
		for _, c := range wrong {
			if _, e := narrows(t, x, c); e != api.ErrArg {
				t.Fatalf("%+v: %v", c, e)
			}
		}
	}
}

// P24.1: at most 32 caveats; that is asked ahead of the caveat.
func TestNarrowMany(t *testing.T) {
	right, wrong := caveats()
	for n, want := range map[int]api.Errno{0: api.OK, 1: api.OK, 30: api.OK, 31: api.OK, 32: api.ErrMany, 33: api.ErrMany, 34: api.ErrMany, 256: api.ErrMany, 288: api.ErrMany} {
		x := made(1, "id", slices.Repeat(oneOfEach(), n)[:n]...)
		for _, c := range right[:9] {
			if _, e := narrows(t, x, c); e != want {
				t.Fatalf("%d caveats and one more: %v, want %v", n, e, want)
			}
		}
		if want == api.OK {
			want = api.ErrArg
		}
		for _, c := range wrong {
			if _, e := narrows(t, x, c); e != want {
				t.Fatalf("%d caveats and a wrong one: %v, want %v", n, e, want)
			}
		}
	}
}

// P24.1: a token is narrowed step by step up to 32 caveats, each tag coming of the one ahead of it.
func TestNarrowByOne(t *testing.T) {
	r := rand.New(rand.NewSource(242))
	for range 30 {
		key, id := r.Intn(mostKeys), anyBytes(r, 1+r.Intn(64))
		x, e := token.Issue(ringOf(t, key), key, id)
		var l []token.Caveat
		for range 32 {
			if e != api.OK || !same(x, made(key, string(id), l...)) {
				t.Fatalf("%+v, %v", x, e)
			}
			l = append(l, anyCaveat(r))
			x, e = narrows(t, x, l[len(l)-1])
		}
		if _, e := narrows(t, x, anyCaveat(r)); e != api.ErrMany {
			t.Fatalf("one more: %v", e)
		}
	}
}

// P24.1: of the token nothing else is asked: its key, ID, caveats and tag may be whatever.
func TestNarrowAnything(t *testing.T) {
	_, wrong := caveats()
	for _, key := range ints() {
		for _, id := range []string{"", "id", strings.Repeat("x", 65), strings.Repeat("y", 1000)} {
			for n := range 32 {
				x := token.Token{Key: key, ID: []byte(id), Caveats: wrong[7*n : 8*n], Tag: api.Hash{byte(n), 3}}
				for _, c := range oneOfEach() {
					if _, e := narrows(t, x, c); e != api.OK {
						t.Fatalf("%+v: %v", x, e)
					}
				}
				narrows(t, x, wrong[n])
			}
		}
	}
	narrows(t, token.Token{}, oneOfEach()[0])
	narrows(t, token.Token{}, token.Caveat{})
}

// P24.1: any token, any caveat.
func TestNarrowAny(t *testing.T) {
	r := rand.New(rand.NewSource(243))
	seen := map[api.Errno]int{}
	for range 4000 {
		x := anyToken(r)
		if r.Intn(3) == 0 {
			x.Key, x.Tag = int(anyField(r)), api.Hash(anyBytes(r, 32))
			for i := range x.Caveats {
				x.Caveats[i] = wildCaveat(r)
			}
		}
		_, e := narrows(t, x, wildCaveat(r))
		seen[e]++
	}
	if seen[api.OK] < 500 || seen[api.ErrArg] < 500 || seen[api.ErrMany] < 100 {
		t.Errorf("%v", seen)
	}
}

// FuzzNarrow holds what may be a caveat against the chapter's table.
func FuzzNarrow(f *testing.F) {
	right, wrong := caveats()
	for i, c := range slices.Concat(right, wrong) {
		if i%7 == 0 {
			f.Add(c.Kind, c.Slot, c.From, c.To, c.Set)
		}
	}
	f.Add(math.MaxInt, math.MinInt, int64(0), int64(0), uint64(0))
	f.Fuzz(func(t *testing.T, kind, slot int, from, to int64, set uint64) {
		narrows(t, made(1, "id"), token.Caveat{Kind: kind, Slot: slot, From: from, To: to, Set: set})
	})
}
