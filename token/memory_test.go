package token_test

import (
	"bytes"
	"fmt"
	"math/rand"
	"slices"
	"sync"
	"testing"

	"portcullis/api"
	"portcullis/token"
)

// roomy is a list with spare room behind it, in which something lies.
func roomy[T any](l []T, spare ...T) []T {
	return append(append(make([]T, 0, len(l)+len(spare)), l...), spare...)[:len(l)]
}

// roomyToken is the same token, each of whose lists has spare room.
func roomyToken(k token.Token) token.Token {
	k.ID = roomy(k.ID, 0xa5, 0x5a, 0xc3)
	k.Caveats = roomy(k.Caveats, token.Caveat{Kind: 99, Slot: 1, From: 2, To: 3, Set: 4}, token.Caveat{Kind: token.Slot, Slot: 5})
	return k
}

// stretched is a copy of a list with its spare room.
func stretched[T any](l []T) []T { return slices.Clone(l[:cap(l)]) }

func kept(k token.Token) token.Token {
	k.ID, k.Caveats = stretched(k.ID), stretched(k.Caveats)
	return k
}

// scribble writes over all that a token's lists hold, spare room too.
func scribble(k token.Token) {
	for i := range k.ID[:cap(k.ID)] {
		k.ID[:cap(k.ID)][i] ^= 0x99
	}
	for i := range k.Caveats[:cap(k.Caveats)] {
		k.Caveats[:cap(k.Caveats)][i] = token.Caveat{Kind: -9, Slot: -8, From: -7, To: -6, Set: 5}
	}
}

// unchanged makes sure that a call leaves a token as it was, spare room too.
func unchanged(t *testing.T, k token.Token, call func()) {
	t.Helper()
	was := kept(k)
	call()
	if !same(kept(k), was) {
		t.Fatalf("%+v has become %+v", was, kept(k))
	}
}

// manyTokens are such as may be and such as may not, with spare room.
func manyTokens(r *rand.Rand, n int) []token.Token {
	var l []token.Token
	for range n {
		l = append(l, roomyToken(anyToken(r)), roomyToken(spoilt(r, anyToken(r))))
	}
	return append(l, token.Token{}, roomyToken(token.Token{}))
}

// P24.7: what is handed in stays as it was, spare room too.
func TestUnchanged(t *testing.T) {
	r := rand.New(rand.NewSource(252))
	x := ordinary(t)
	x.ring, x.known = ringOf(t, upTo(mostKeys)...), upTo(mostKeys)
	for _, k := range manyTokens(r, 300) {
		unchanged(t, k, func() { k.Narrow(anyCaveat(r)) })
		unchanged(t, k, func() { k.Narrow(token.Caveat{}) })
		unchanged(t, k, func() { x.checks(t, k, anyWish(r)) })
		unchanged(t, k, func() { token.Put(k) })
		unchanged(t, k, func() { token.Issue(x.ring, 1, k.ID) })
		b := roomy(bytesOf(k), 1, 2, 3)
		was := stretched(b)
		token.Get(b)
		token.Get(b[:len(b)-1])
		token.Get(b[:len(b)+1])
		if !bytes.Equal(stretched(b), was) {
			t.Fatalf("%x has become %x", was, stretched(b))
		}
	}
}

// P24.7: no answer shares memory with an argument, spare room included: written over, neither is seen in the other.
func TestApart(t *testing.T) {
	r := rand.New(rand.NewSource(253))
	ring := ringOf(t, upTo(mostKeys)...)
	apart := func(answer, argument token.Token) {
		t.Helper()
		was := kept(answer)
		scribble(argument)
		if !same(kept(answer), was) {
			t.Fatalf("%+v has become %+v", was, kept(answer))
		}
		was = kept(argument)
		scribble(answer)
		if !same(kept(argument), was) {
			t.Fatalf("%+v has become %+v", was, kept(argument))
		}
	}
	for range 300 {
		k := roomyToken(anyToken(r))
		issued, e := token.Issue(ring, k.Key, k.ID)
		if e != api.OK {
			t.Fatal(e)
		}
		apart(issued, again(k))
		apart(issued, k)
		k = roomyToken(anyToken(r))
		if n, e := k.Narrow(anyCaveat(r)); e == api.OK {
			apart(n, k)
		}
		k = roomyToken(anyToken(r))
		b := puts(t, k)
		was := stretched(b)
		scribble(k)
		if !bytes.Equal(stretched(b), was) {
			t.Fatalf("%x has become %x", was, b)
		}
		back := kept(k)
		over(b)
		if !same(kept(k), back) {
			t.Fatal("bytes and their token share memory")
		}
	}
}

// over writes over bytes, spare room too.
func over(b []byte) {
	for i := range b[:cap(b)] {
		b[:cap(b)][i] ^= 0x77
	}
}

// P24.7: what Get tells shares nothing with the bytes.
func TestGetApart(t *testing.T) {
	r := rand.New(rand.NewSource(254))
	for range 300 {
		k := anyToken(r)
		b := roomy(bytesOf(k), 7, 7, 7)
		x, err := token.Get(b)
		if err != nil {
			t.Fatal(err)
		}
		all := kept(x)
		over(b)
		if !same(x, k) || !same(kept(x), all) {
			t.Fatalf("%+v has become %+v", k, x)
		}
		was := stretched(b)
		scribble(x)
		if !bytes.Equal(stretched(b), was) {
			t.Fatal("a token and its bytes share memory")
		}
	}
}

// P24.7: one token narrowed twice gives two that share nothing, nor anything with the first, written over and appended to.
func TestNarrowTwice(t *testing.T) {
	r := rand.New(rand.NewSource(255))
	ring := ringOf(t, upTo(mostKeys)...)
	for i := range 400 {
		k := roomyToken(anyToken(r))
		if i%2 == 0 { // such as the program itself has told
			k, _ = token.Issue(ring, k.Key, k.ID)
			for range r.Intn(6) {
				k, _ = k.Narrow(anyCaveat(r))
			}
		}
		if len(k.Caveats) >= mostCaveats {
			continue
		}
		one, two := anyCaveat(r), anyCaveat(r)
		a, e := k.Narrow(one)
		wasA := again(a)
		b, f := k.Narrow(two)
		if e != api.OK || f != api.OK {
			t.Fatal(e, f)
		}
		wasK, wasB := again(k), again(b)
		c, _ := a.Narrow(two)
		wasC := again(c)
		all := []token.Token{k, a, b, c}
		want := []token.Token{wasK, wasA, wasB, wasC}
		for j := range all {
			x := all[j]
			x.Caveats = append(x.Caveats, token.Caveat{Kind: -1})
			x.ID = append(x.ID, 0xee)
			for n := range all {
				if !same(all[n], want[n]) {
					t.Fatalf("%+v has become %+v", want[n], all[n])
				}
			}
		}
		for j := range all {
			scribble(all[j])
			for n := j + 1; n < len(all); n++ {
				if !same(all[n], want[n]) {
					t.Fatalf("%+v has become %+v", want[n], all[n])
				}
			}
		}
	}
}

// P24.7: what was answered once is not kept: an answer that is written over changes no later one.
func TestKeepsNothing(t *testing.T) {
	x := ordinary(t)
	for range 3 {
		k, e := token.Issue(x.ring, 1, []byte("id"))
		if e != api.OK || !same(k, made(1, "id")) {
			t.Fatalf("%+v, %v", k, e)
		}
		n, e := k.Narrow(oneOfEach()[1])
		if e != api.OK || !same(n, made(1, "id", oneOfEach()[1])) {
			t.Fatalf("%+v, %v", n, e)
		}
		b := puts(t, n)
		takes(t, b, n)
		x.expects(t, n, fits(), api.OK)
		over(b)
		scribble(n)
		scribble(k)
	}
}

// all is what every call answers of some tokens, wishes and bytes, as text.
func all(x *bench, l []token.Token, caveats []token.Caveat, wishes []token.Wish, rows [][]byte) string {
	var text bytes.Buffer
	for i, k := range l {
		issued, e := token.Issue(x.ring, k.Key, k.ID)
		narrowed, f := k.Narrow(caveats[i])
		fmt.Fprintln(&text, issued, e, narrowed, f, token.Check(x.ring, x.store, k, wishes[i]))
		b, e := token.Put(k)
		got, err := token.Get(rows[i])
		fmt.Fprintln(&text, b, e, got, err)
	}
	return text.String()
}

// R4: the same call has the same answer, run twice, and several at one time.
func TestTogether(t *testing.T) {
	r := rand.New(rand.NewSource(256))
	x := ordinary(t)
	var l []token.Token
	var caveats []token.Caveat
	var wishes []token.Wish
	var rows [][]byte
	for range 200 {
		l = append(l, spoilt(r, easyToken(r, x)))
		caveats = append(caveats, wildCaveat(r))
		wishes = append(wishes, anyWish(r))
		rows = append(rows, changed(r, bytesOf(anyToken(r))))
	}
	first := all(x, l, caveats, wishes, rows)
	if all(x, l, caveats, wishes, rows) != first {
		t.Error("run twice the answers are others")
	}
	var texts [4]string
	var wg sync.WaitGroup
	for i := range texts {
		wg.Go(func() { texts[i] = all(x, l, caveats, wishes, rows) })
	}
	wg.Wait()
	for _, text := range texts {
		if text != first {
			t.Error("at one time the answers are others")
		}
	}
}

// R4: answers don't hang on spare room.
func TestRoomDoesNotCount(t *testing.T) {
	r := rand.New(rand.NewSource(257))
	x := ordinary(t)
	for range 300 {
		k := spoilt(r, easyToken(r, x))
		wide := roomyToken(k)
		c, w := wildCaveat(r), anyWish(r)
		a, e := k.Narrow(c)
		b, f := wide.Narrow(c)
		if e != f || !same(a, b) || x.checks(t, k, w) != x.checks(t, wide, w) || !bytes.Equal(puts(t, k), puts(t, wide)) {
			t.Fatalf("%+v", k)
		}
		row := changed(r, bytesOf(k))
		if p, q := gets(t, row), gets(t, roomy(row, 1, 2)); p.e != q.e || p.at != q.at || !same(p.token, q.token) {
			t.Fatalf("%x", row)
		}
	}
}
