package token_test

import (
	"bytes"
	"errors"
	"math/rand"
	"slices"
	"testing"

	"portcullis/api"
	"portcullis/image"
	"portcullis/token"
)

// puts makes sure that Put answers as the chapter says.
func puts(t *testing.T, k token.Token) []byte {
	t.Helper()
	b, e := token.Put(k)
	if !mayBe(k) {
		if e != api.ErrForm || len(b) != 0 {
			t.Fatalf("Put(%+v): %x, %v", k, b, e)
		}
		return nil
	}
	if e != api.OK || !bytes.Equal(b, bytesOf(k)) {
		t.Fatalf("Put(%+v): %x, %v, want %x", k, b, e, bytesOf(k))
	}
	return b
}

// fails makes sure that Get answers just that.
func fails(t *testing.T, b []byte, e api.Errno, at int) {
	t.Helper()
	if x := gets(t, b); x.e != e || x.at != at {
		t.Fatalf("Get(%x): %v at %d, want %v at %d", b, x.e, x.at, e, at)
	}
}

// takes makes sure that Get takes bytes as that token.
func takes(t *testing.T, b []byte, k token.Token) {
	t.Helper()
	if x := gets(t, b); x.e != api.OK || !same(x.token, k) {
		t.Fatalf("Get(%x): %+v, want %+v", b, x, k)
	}
}

// with is the same bytes with other ones at a place.
func with(b []byte, at int, l ...byte) []byte {
	c := slices.Clone(b)
	copy(c[at:], l)
	return c
}

// tokens are some that may be: of few bytes, of many, with caveats of each kind, and with a tag that is not right, which is not asked here.
func tokens() []token.Token {
	odd := made(5, "\x00\xffPCTK", oneOfEach()...)
	odd.Tag = api.Hash{7}
	return []token.Token{
		made(1, "id"),
		made(0, "\x00"),
		made(63, string(bytes.Repeat([]byte{0xff}, 64))),
		made(7, "i", token.Caveat{Kind: token.Slot}),
		made(8, "abc", oneOfEach()...),
		made(62, string(make([]byte, 63)), slices.Repeat(oneOfEach(), 7)[:31]...),
		made(9, string(make([]byte, 64)), slices.Repeat(oneOfEach(), 7)[:32]...),
		made(3, "t", token.Caveat{Kind: token.Most, Slot: 7, To: mostValue}, token.Caveat{Kind: token.Kinds, Set: allKinds}, versions(0, mostVersion), token.Caveat{Kind: token.Least, Slot: 7, From: mostValue}),
		odd,
	}
}

// P24.3, P24.6: tokens that may be, there and back.
func TestPut(t *testing.T) {
	for _, k := range tokens() {
		takes(t, puts(t, k), k)
	}
	right, _ := caveats()
	for _, c := range right {
		k := made(1, "id", c)
		takes(t, puts(t, k), k)
	}
	for key := range mostKeys {
		for _, n := range []int{1, 2, 63, 64} {
			k := token.Token{Key: key, ID: make([]byte, n)}
			takes(t, puts(t, k), k)
		}
	}
}

// P24.3: ErrForm, of tokens that may not be, in each way.
func TestPutForm(t *testing.T) {
	for _, k := range noTokens() {
		if b, e := token.Put(k); e != api.ErrForm || len(b) != 0 {
			t.Fatalf("Put(%+v): %x, %v", k, b, e)
		}
	}
}

// P24.3: a caveat's bytes, written out.
func TestCaveatBytes(t *testing.T) {
	for _, x := range []struct {
		c token.Caveat
		b []byte
	}{
		{token.Caveat{Kind: token.Slot, Slot: 7}, []byte{1, 7, 0, 0, 0, 0, 0, 0, 0, 0, 0, 0, 0, 0, 0, 0, 0, 0, 0, 0, 0, 0, 0, 0, 0, 0}},
		{versions(258, 0xfffefdfc), []byte{2, 0, 2, 1, 0, 0, 0, 0, 0, 0, 0xfc, 0xfd, 0xfe, 0xff, 0, 0, 0, 0, 0, 0, 0, 0, 0, 0, 0, 0}},
		{token.Caveat{Kind: token.Kinds, Set: 0x2104}, []byte{3, 0, 0, 0, 0, 0, 0, 0, 0, 0, 0, 0, 0, 0, 0, 0, 0, 0, 4, 0x21, 0, 0, 0, 0, 0, 0}},
		{token.Caveat{Kind: token.Least, Slot: 3, From: 0x3102030405060708}, []byte{4, 3, 8, 7, 6, 5, 4, 3, 2, 0x31, 0, 0, 0, 0, 0, 0, 0, 0, 0, 0, 0, 0, 0, 0, 0, 0}},
		{token.Caveat{Kind: token.Most, Slot: 4, To: 0x3102030405060708}, []byte{5, 4, 0, 0, 0, 0, 0, 0, 0, 0, 8, 7, 6, 5, 4, 3, 2, 0x31, 0, 0, 0, 0, 0, 0, 0, 0}},
	} {
		k := token.Token{Key: 2, ID: []byte("xy"), Caveats: []token.Caveat{x.c}, Tag: api.Hash{0: 9, 31: 8}}
		want := slices.Concat([]byte{0x50, 0x43, 0x54, 0x4b, 1, 2, 2, 1, 'x', 'y'}, x.b, k.Tag[:])
		if b := puts(t, k); !bytes.Equal(b, want) {
			t.Errorf("%x, want %x", b, want)
		}
		takes(t, want, k)
	}
}

// P24.3: bytes that end too early: of each right token's, cut at every length.
func TestGetShort(t *testing.T) {
	fails(t, nil, api.ErrShort, 0)
	fails(t, []byte{}, api.ErrShort, 0)
	for _, k := range tokens() {
		b := bytesOf(k)
		for n := range b {
			fails(t, b[:n], api.ErrShort, n)
			fails(t, slices.Clone(b[:n]), api.ErrShort, n)
		}
	}
}

// P24.3: bytes behind the tag.
func TestGetRest(t *testing.T) {
	for _, k := range tokens() {
		b := bytesOf(k)
		for _, rest := range [][]byte{{0}, {0xff}, {1, 2}, make([]byte, 26), k.Tag[:], b, make([]byte, 100000)} {
			fails(t, slices.Concat(b, rest), api.ErrRest, len(b))
		}
	}
}

// P24.3: each byte ahead of the ID, turned to each of its values: what may not stand there is told at its place.
func TestGetHead(t *testing.T) {
	for _, k := range tokens() {
		b := bytesOf(k)
		for at := range 8 {
			for v := range 256 {
				is := map[int]bool{5: v < 64, 6: v >= 1 && v <= 64, 7: v <= 32}
				ok, free := is[at]
				if !free {
					ok = byte(v) == b[at]
				}
				x := gets(t, with(b, at, byte(v)))
				if !ok && (x.e != api.ErrForm || x.at != at) {
					t.Fatalf("%02x at %d: %+v", v, at, x)
				}
				if ok && x.e == api.ErrForm && x.at <= at {
					t.Fatalf("%02x at %d: %+v", v, at, x)
				}
				if ok && at == 5 && x.token.Key != v {
					t.Fatalf("the key %d: %+v", v, x)
				}
				fails(t, with(b, at, byte(v))[:at], api.ErrShort, at) // where it is gone nothing is told of it
				if !ok {
					fails(t, with(b, at, byte(v))[:at+1], api.ErrForm, at)
				}
			}
		}
	}
}

// P24.3: another length or another number of caveats than there are: what is missing, or left, is told.
func TestGetCounts(t *testing.T) {
	k := made(1, "id", slices.Repeat([]token.Caveat{{Kind: token.Slot}}, 3)...)
	b := bytesOf(k)
	fails(t, with(b, 7, 2), api.ErrRest, len(b)-26)
	fails(t, with(b, 7, 0), api.ErrRest, len(b)-3*26)
	fails(t, with(b, 6, 1), api.ErrForm, 9)
	fails(t, with(b, 6, 64), api.ErrForm, 72)
	fails(t, with(bytesOf(made(1, "id")), 6, 64), api.ErrShort, 42)
	fails(t, with(bytesOf(made(1, "id")), 7, 1), api.ErrForm, 10)
	fails(t, with(bytesOf(made(1, "id")), 7, 32), api.ErrForm, 10)
	zero := token.Token{ID: make([]byte, 64)}
	fails(t, with(bytesOf(zero), 6, 1), api.ErrRest, 41)
	fails(t, with(bytesOf(zero), 6, 63), api.ErrRest, 103)
	fails(t, with(bytesOf(zero), 7, 1), api.ErrForm, 72)
	fails(t, with(bytesOf(zero), 7, 2), api.ErrForm, 72)
}

// P24.3: caveats that may not be, in each way that bytes can say, at their first byte; where they are not whole ErrShort is told.
func TestGetCaveats(t *testing.T) {
	_, wrong := caveats()
	for i, c := range wrong {
		if c.Kind < 0 || c.Kind > 255 || c.Slot < 0 || c.Slot > 255 {
			continue
		}
		l := oneOfEach()
		l[i%5] = c
		k := made(1, "id", l...)
		b, at := bytesOf(k), 10+26*(i%5)
		fails(t, b, api.ErrForm, at)
		fails(t, b[:at+26], api.ErrForm, at)
		for n := range 26 {
			fails(t, b[:at+n], api.ErrShort, at+n)
		}
	}
	b := bytesOf(made(1, "id", oneOfEach()...))
	for i := range 5 {
		for at := range 26 {
			for v := range 256 {
				gets(t, with(b, 10+26*i+at, byte(v)))
			}
		}
	}
}

// P24.3: of two things that are wrong the first from the left is told.
func TestGetFirst(t *testing.T) {
	b := bytesOf(made(1, "id", oneOfEach()...))
	spots := map[int]byte{0: 'p', 1: 'c', 2: 't', 3: 'k', 4: 2, 5: 64, 6: 65, 7: 33, 10: 6, 36: 0, 62: 9, 88: 255, 114: 7}
	for one, v := range spots {
		fails(t, with(b, one, v), api.ErrForm, one)
		for two, u := range spots {
			fails(t, with(with(b, one, v), two, u), api.ErrForm, min(one, two))
		}
		fails(t, append(with(b, one, v), 0), api.ErrForm, one)
		for n := range b {
			end := one + 1
			if one >= 10 {
				end = one + 26 // a caveat is looked at when it is whole
			}
			if n >= end {
				fails(t, with(b, one, v)[:n], api.ErrForm, one)
			} else {
				fails(t, with(b, one, v)[:min(n, len(b))], api.ErrShort, n)
			}
		}
	}
}

// P24.3, P24.6: any byte turned, left out or put in, over many tokens: Get answers as the chapter says, and what it takes Put tells byte by byte.
func TestGetAny(t *testing.T) {
	r := rand.New(rand.NewSource(245))
	seen := map[api.Errno]int{}
	for range 3000 {
		b := bytesOf(anyToken(r))
		for range 8 {
			c := changed(r, b)
			x := gets(t, c)
			seen[x.e]++
			if x.e != api.OK {
				continue
			}
			if back, e := token.Put(x.token); e != api.OK || !bytes.Equal(back, c) {
				t.Fatalf("Put of Get(%x): %x, %v", c, back, e)
			}
		}
	}
	for _, e := range []api.Errno{api.OK, api.ErrShort, api.ErrForm, api.ErrRest} {
		if seen[e] < 500 {
			t.Errorf("%v was answered %d times", e, seen[e])
		}
	}
}

// changed is bytes with one turned, left out or put in, cut off, or as they were.
func changed(r *rand.Rand, b []byte) []byte {
	c := slices.Clone(b)
	at := r.Intn(len(b))
	if r.Intn(3) == 0 {
		at = r.Intn(10)
	}
	switch r.Intn(8) {
	case 0:
		c[at] ^= 1 << r.Intn(8)
	case 1:
		c[at] = byte(r.Intn(256))
	case 2:
		c = slices.Delete(c, at, at+1)
	case 3:
		c = slices.Insert(c, at, byte(r.Intn(256)))
	case 4:
		c = c[:at]
	case 5:
		c = append(c, anyBytes(r, 1+r.Intn(30))...)
	case 6:
		return c
	case 7:
		c[at] ^= 1 << r.Intn(8)
		c = changed(r, c)
	}
	return c
}

// P24.6: Get of Put is the token, over many of them.
func TestThereAndBack(t *testing.T) {
	r := rand.New(rand.NewSource(246))
	for range 3000 {
		k := anyToken(r)
		if r.Intn(2) == 0 {
			k.Tag = api.Hash(anyBytes(r, 32))
		}
		takes(t, puts(t, k), k)
	}
}

// P24.3: tokens that may be or not, over many of them: what may not be is never told as bytes.
func TestPutAny(t *testing.T) {
	r := rand.New(rand.NewSource(247))
	none := 0
	for range 3000 {
		k := spoilt(r, anyToken(r))
		if puts(t, k) == nil {
			none++
		}
	}
	if none < 200 {
		t.Errorf("%d tokens may not be", none)
	}
}

// P24.3: an error is an *image.Wrong, whose number errors.As and errors.Is find, and whose place is told.
func TestGetError(t *testing.T) {
	b := bytesOf(made(1, "id"))
	for _, x := range []struct {
		b  []byte
		e  api.Errno
		at int
	}{{b[:41], api.ErrShort, 41}, {with(b, 5, 64), api.ErrForm, 5}, {append(slices.Clone(b), 1), api.ErrRest, 42}} {
		k, err := token.Get(x.b)
		w, is := err.(*image.Wrong)
		if !is || *w != (image.Wrong{E: x.e, At: x.at}) || !isZero(k) {
			t.Errorf("%+v, %v, want %v at %d", k, err, x.e, x.at)
		}
		var e api.Errno
		if !errors.As(err, &e) || e != x.e || !errors.Is(err, x.e) {
			t.Errorf("%v, want %v", e, x.e)
		}
	}
	if k, err := token.Get(b); err != nil || !same(k, made(1, "id")) {
		t.Errorf("%+v, %v", k, err)
	}
}

// FuzzGet holds Get against the second reading, and what it takes against Put.
func FuzzGet(f *testing.F) {
	for _, k := range tokens() {
		f.Add(bytesOf(k))
	}
	f.Add([]byte{})
	f.Fuzz(func(t *testing.T, b []byte) {
		if x := gets(t, b); x.e == api.OK && !bytes.Equal(puts(t, x.token), b) {
			t.Fatalf("%x is told as other bytes", b)
		}
	})
}
