package token_test

import (
	"encoding/hex"
	"fmt"
	"math/rand"
	"slices"
	"testing"

	"portcullis/api"
	"portcullis/chip"
	"portcullis/keys"
	"portcullis/mac"
	"portcullis/store"
	"portcullis/token"
)

// scene is the chapter's: a ring with the secret 1, a chip with Slots 2 and Keys 4, the slot 0's value being 5.
func scene(t *testing.T) (*keys.Ring, *store.Store) {
	t.Helper()
	k, e, _ := keys.New([]api.Secret{{Key: 1, Bytes: []byte("k")}})
	if e != api.OK {
		t.Fatal(e)
	}
	c, e := chip.New(api.Config{Cells: 8, Slots: 2, Fuses: 3, Step: 10, Keys: 4, Erases: 5})
	if e != api.OK {
		t.Fatal(e)
	}
	s, e := store.Mount(c)
	if e != api.OK {
		t.Fatal(e)
	}
	if e := s.BumpTo(0, 5); e != api.OK {
		t.Fatal(e)
	}
	return k, s
}

func issued(t *testing.T, k *keys.Ring, l ...token.Caveat) token.Token {
	t.Helper()
	x, e := token.Issue(k, 1, []byte("id"))
	for _, c := range l {
		if e != api.OK {
			t.Fatal(e)
		}
		x, e = x.Narrow(c)
	}
	if e != api.OK {
		t.Fatal(e)
	}
	return x
}

// The chapter's examples 1 to 3.
func TestExamples(t *testing.T) {
	k, s := scene(t)
	x := issued(t, k)
	if want := mac.Of([]byte("k"), []byte("portcullis token\x00\x02id")); x.Key != 1 || string(x.ID) != "id" || len(x.Caveats) != 0 || x.Tag != want {
		t.Errorf("%+v", x)
	}
	if _, e := token.Issue(k, 2, []byte("id")); e != api.ErrKey {
		t.Errorf("Issue(2): %v", e)
	}
	if _, e := token.Issue(k, 1, nil); e != api.ErrBytes {
		t.Errorf("Issue without bytes: %v", e)
	}
	slot, version := token.Caveat{Kind: token.Slot, Slot: 1}, versions(3, 7)
	two := issued(t, k, slot, version)
	second := two
	second.Caveats = two.Caveats[1:]
	least := issued(t, k, token.Caveat{Kind: token.Least, From: 6})
	most := issued(t, k, token.Caveat{Kind: token.Most, To: 5})
	none := issued(t, k, token.Caveat{Kind: token.Least, Slot: 2})
	type row struct {
		x    token.Token
		slot int
		v    int64
		want api.Errno
	}
	check := func(rows ...row) {
		t.Helper()
		for i, c := range rows {
			for kind := range 14 {
				if e := token.Check(k, s, c.x, token.Wish{Kind: kind, Slot: c.slot, Version: c.v}); e != c.want {
					t.Errorf("%d: %v, want %v", i, e, c.want)
				}
			}
		}
	}
	check(row{x, 0, 0, api.OK}, row{x, 9, -4, api.OK},
		row{two, 1, 5, api.OK}, row{two, 0, 5, api.ErrRange}, row{two, 1, 8, api.ErrVersion}, row{two, 0, 8, api.ErrRange}, row{second, 1, 5, api.ErrTag},
		row{least, 0, 0, api.ErrState}, row{most, 0, 0, api.OK}, row{none, 0, 0, api.ErrRange})
	if v, e := s.Bump(0); v != 6 || e != api.OK {
		t.Fatal(v, e)
	}
	check(row{least, 0, 0, api.OK}, row{most, 0, 0, api.ErrState}, row{none, 0, 0, api.ErrRange})
	for _, c := range []token.Caveat{versions(7, 3), {Kind: token.Kinds}, {Kind: token.Kinds, Set: 1}} {
		if y, e := x.Narrow(c); e != api.ErrArg || !isZero(y) {
			t.Errorf("%+v: %+v, %v", c, y, e)
		}
	}
}

// The chapter's example 4.
func TestExampleBytes(t *testing.T) {
	k, _ := scene(t)
	x := issued(t, k)
	b := puts(t, x)
	if want := "5043544b010102006964" + hex.EncodeToString(x.Tag[:]); hex.EncodeToString(b) != want || len(b) != 42 {
		t.Errorf("%x, want %s", b, want)
	}
	fails(t, b[:41], api.ErrShort, 41)
	fails(t, append(slices.Clone(b), 0), api.ErrRest, 42)
	fails(t, with(b, 6, 0), api.ErrForm, 6)
	fails(t, with(b, 7, 0x21), api.ErrForm, 7)
}

// P24.4: over many chips, tokens and wishes: with a caveat more a token lets just what the one ahead of it lets and that caveat is met by.
func TestNarrower(t *testing.T) {
	r := rand.New(rand.NewSource(248))
	lets, falls := 0, 0
	for range 60 {
		slots := 1 + r.Intn(4)
		x := benchOf(t, api.Config{Cells: 9, Slots: slots, Fuses: 8, Step: 4, Keys: 6, Erases: 20}, r.Perm(6)[:3]...)
		for slot := range slots {
			x.raise(t, slot, r.Int63n(12))
		}
		if r.Intn(4) == 0 {
			x.revoke(t, x.known[0])
		}
		for range 40 {
			k := spoilt(r, easyToken(r, x))
			c := easyCaveat(r, mostSlots)
			n, e := k.Narrow(c)
			if e != api.OK {
				t.Fatalf("%+v: %v", k, e)
			}
			for range 15 {
				w := anyWish(r)
				was, is := x.checks(t, k, w), x.checks(t, n, w)
				if is == api.OK && was != api.OK {
					t.Fatalf("%+v narrowed by %+v lets %+v, which it did not", k, c, w)
				}
				want := was
				if was == api.OK {
					want = x.unmet(c, w)
				}
				if is != want {
					t.Fatalf("%+v narrowed by %+v, %+v: %v, want %v", k, c, w, is, want)
				}
				if was == api.OK {
					lets++
				}
				if was != is {
					falls++
				}
			}
		}
	}
	if lets < 2000 || falls < 500 {
		t.Errorf("%d were let, %d of them no more", lets, falls)
	}
}

// P24.4: what a row of caveats lets, the same ones let in any order, and twice.
func TestNarrowerOrder(t *testing.T) {
	r := rand.New(rand.NewSource(249))
	x := ordinary(t)
	for range 400 {
		var l []token.Caveat
		for range 1 + r.Intn(4) {
			l = append(l, easyCaveat(r, 3))
		}
		k, twice := made(1, "id", l...), made(1, "id", slices.Repeat(l, 2)...)
		mixed := slices.Clone(l)
		r.Shuffle(len(l), func(i, j int) { mixed[i], mixed[j] = mixed[j], mixed[i] })
		for range 10 {
			w := anyWish(r)
			e := x.checks(t, k, w)
			if two := x.checks(t, twice, w); two != e {
				t.Fatalf("%+v twice, %+v: %v, want %v", l, w, two, e)
			}
			if other := x.checks(t, made(1, "id", mixed...), w); (other == api.OK) != (e == api.OK) {
				t.Fatalf("%+v as %+v, %+v: %v, want %v", l, mixed, w, other, e)
			}
		}
	}
}

// P24.5: unlike IDs and rows of caveats have unlike tags, the right ones as Narrow tells them.
func TestUnlikeTags(t *testing.T) {
	r := rand.New(rand.NewSource(250))
	ring := ringOf(t, 1)
	seen := map[api.Hash]string{}
	add := func(k token.Token) {
		t.Helper()
		if k.Tag != rightTag(secretOf(1), k) {
			t.Fatalf("%+v: not its right tag", k)
		}
		what := fmt.Sprintf("%x %v", k.ID, k.Caveats)
		if was, is := seen[k.Tag]; is && was != what {
			t.Fatalf("%s and %s have one tag", was, what)
		}
		seen[k.Tag] = what
	}
	right, _ := caveats()
	ids := []string{"i", "id", "id\x00", "\x02id", "\x00\x02id", "\x00", "\x00\x00", string(told(right[0])), string(make([]byte, 63)), string(make([]byte, 64))}
	for range 200 {
		ids = append(ids, string(anyBytes(r, 1+r.Intn(64))))
	}
	for _, id := range ids {
		k, e := token.Issue(ring, 1, []byte(id))
		if e != api.OK {
			t.Fatal(e)
		}
		add(k)
		for range 32 {
			if k, e = k.Narrow(anyOf(r, right...)); e != api.OK {
				t.Fatal(e)
			}
			add(k)
		}
	}
	for _, c := range right {
		k, _ := made(1, "id").Narrow(c)
		add(k)
	}
	if len(seen) < 6000 {
		t.Errorf("%d tags", len(seen))
	}
}

// P24.5: what Check takes has the right tag: whatever is turned in a token that is taken, it is taken no more.
func TestOnlyIssued(t *testing.T) {
	r := rand.New(rand.NewSource(251))
	x := ordinary(t)
	refused := 0
	for range 400 {
		k := easyToken(r, x)
		w := anyWish(r)
		if x.checks(t, k, w) != api.OK {
			continue
		}
		for range 20 {
			y := spoilt(r, k)
			if same(y, k) {
				x.expects(t, y, w, api.OK)
				continue
			}
			refused++
			if e := x.checks(t, y, w); e == api.OK {
				t.Fatalf("%+v is taken, and %+v", k, y)
			}
		}
	}
	if refused < 500 {
		t.Errorf("%d were refused", refused)
	}
}

// P24.5: whatever bit of a token's bytes is turned, what they are then is not let.
func TestNoBitTurned(t *testing.T) {
	x := ordinary(t)
	k := made(1, "id", oneOfEach()...)
	b := puts(t, k)
	x.expects(t, k, fits(), api.OK)
	for bit := range 8 * len(b) {
		c := slices.Clone(b)
		c[bit/8] ^= 1 << (bit % 8)
		y := gets(t, c)
		if y.e != api.OK {
			continue
		}
		if e := x.checks(t, y.token, fits()); e == api.OK {
			t.Fatalf("%x is taken, and %x", b, c)
		}
	}
}
