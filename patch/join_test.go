package patch_test

import (
	"bytes"
	"math/rand"
	"slices"
	"testing"

	"portcullis/api"
)

// hangs is a patch for rows of so many bytes, whose old hash is number i and whose new one is number i + 1.
func hangs(i byte, before, after uint32, parts ...piece) []byte {
	return words{api.Hash{i}, api.Hash{i + 1}, before, after, parts}.written()
}

// comes makes sure that two patches joined have just those parts.
func comes(t testing.TB, p, q []byte, parts ...piece) {
	t.Helper()
	j, f := joins(t, p, q)
	if f.e != api.OK {
		t.Fatalf("Join(%x, %x): %v", p, q, f)
	}
	x, y := read(p), read(q)
	if want := (words{x.old, y.next, x.before, y.after, parts}).written(); !bytes.Equal(j, want) {
		t.Fatalf("Join(%x, %x): %x, want %x", p, q, j[77:], want[77:])
	}
}

// unjoined makes sure that Join answers just that.
func unjoined(t testing.TB, p, q []byte, e api.Errno, at int) {
	t.Helper()
	if j, f := joins(t, p, q); f != (fault{e, at}) || len(j) != 0 {
		t.Fatalf("Join(%x, %x): %x, %v, want %v at %d", short(p), short(q), short(j), f, e, at)
	}
}

// P25.4: the chapter's examples.
func TestJoinExamples(t *testing.T) {
	a, b, c := []byte("a row of bytes, the first one"), []byte("a row of bytes, the second one"), []byte("one more row, the second one")
	j, f := joins(t, makes(t, a, b), makes(t, b, c))
	if f.e != api.OK {
		t.Fatal(f)
	}
	gives(t, a, j, string(c))
	p := makes(t, a, b)
	unjoined(t, p, p, api.ErrState, 5)
	same := makes(t, a, a)
	if j, f := joins(t, same, same); f.e != api.OK || !bytes.Equal(j, same) {
		t.Errorf("%x, %v", j, f)
	}
}

// P25.4: Read's error of p comes ahead of q's, whose place is told in q.
func TestJoinRead(t *testing.T) {
	p := hangs(1, 9, 6, copies(2, 3), lays("xyz"))
	q := hangs(2, 6, 8, lays("u"), copies(0, 4), copies(2, 3))
	type bad struct {
		b  []byte
		e  api.Errno
		at int
	}
	spoil := func(b []byte) []bad {
		l := []bad{{with(b, 0, 'p'), api.ErrForm, 0}, {with(b, 4, 2), api.ErrForm, 4}, {with(b, 71, 255), api.ErrForm, 69}, {with(b, 75, 255), api.ErrForm, 73}, {with(b, 77, 3), api.ErrForm, 77}, {append(slices.Clone(b), 0), api.ErrRest, len(b)}}
		for n := range b {
			l = append(l, bad{b[:n], api.ErrShort, n})
		}
		return l
	}
	for _, x := range spoil(p) {
		unjoined(t, x.b, q, x.e, x.at)
		unjoined(t, x.b, hangs(7, 6, 0), x.e, x.at) // beside a q that doesn't go with it
		for _, y := range spoil(q) {
			unjoined(t, x.b, y.b, x.e, x.at)
		}
	}
	for _, y := range spoil(q) {
		unjoined(t, p, y.b, y.e, y.at)
		unjoined(t, hangs(7, 6, 0), y.b, y.e, y.at)
	}
}

// P25.4: ErrState, if q doesn't begin where p ends.
func TestJoinState(t *testing.T) {
	p := hangs(1, 9, 6, copies(2, 3), lays("xyz"))
	q := hangs(2, 6, 3, copies(0, 3))
	comes(t, p, q, copies(2, 3))
	for at := 5; at < 37; at++ {
		unjoined(t, p, with(q, at, q[at]^1), api.ErrState, 5)
		unjoined(t, with(p, at+32, p[at+32]^128), q, api.ErrState, 5)
	}
	for _, n := range []uint32{3, 5, 7, 6 + 256, most} {
		unjoined(t, p, with(q, 69, four(n)...), api.ErrState, 5)                      // another number of bytes
		unjoined(t, p, with(with(q, 69, four(n)...), 5, q[5]^1), api.ErrState, 5)     // and another hash
		unjoined(t, hangs(1, most, n, copies(0, n)), q, api.ErrState, 5)              // the same of p
		unjoined(t, hangs(1, most, n, copies(0, n)), hangs(2, 6, 0), api.ErrState, 5) // which is not asked of q's parts
	}
	unjoined(t, q, p, api.ErrState, 5)
	unjoined(t, hangs(1, 0, 0), hangs(3, 0, 0), api.ErrState, 5)
	unjoined(t, hangs(1, 0, 0), hangs(2, 1, 0), api.ErrState, 5)
	comes(t, hangs(1, 0, 0), hangs(2, 0, 0))
}

// P25.4: copies that begin and end within, just at and across the parts of the first patch.
func TestJoinCopies(t *testing.T) {
	p := hangs(1, 20, 9, copies(10, 3), lays("xyz"), copies(4, 3)) // the old row's 10 11 12, x y z, and 4 5 6
	for _, x := range []struct {
		from, n uint32
		parts   []piece
	}{
		{0, 1, []piece{copies(10, 1)}},
		{0, 3, []piece{copies(10, 3)}},
		{1, 1, []piece{copies(11, 1)}},
		{2, 1, []piece{copies(12, 1)}},
		{2, 2, []piece{copies(12, 1), lays("x")}},
		{3, 1, []piece{lays("x")}},
		{3, 3, []piece{lays("xyz")}},
		{4, 1, []piece{lays("y")}},
		{4, 3, []piece{lays("yz"), copies(4, 1)}},
		{5, 4, []piece{lays("z"), copies(4, 3)}},
		{6, 3, []piece{copies(4, 3)}},
		{8, 1, []piece{copies(6, 1)}},
		{2, 5, []piece{copies(12, 1), lays("xyz"), copies(4, 1)}},
		{0, 9, []piece{copies(10, 3), lays("xyz"), copies(4, 3)}},
	} {
		comes(t, p, hangs(2, 9, x.n, copies(x.from, x.n)), x.parts...)
	}
	for from := range uint32(9) {
		for n := range 9 - from {
			for other := range uint32(9) {
				for m := range 9 - other {
					if other != from+n+1 {
						joins(t, p, hangs(2, 9, n+m+2, copies(from, n+1), copies(other, m+1)))
					}
					joins(t, p, hangs(2, 9, n+m+3, copies(from, n+1), lays("-"), copies(other, m+1)))
				}
			}
		}
	}
}

// P25.4: what would stand behind something that it goes on is made one with it: it is a patch still. (By the form's words no other parts tell the same of every row.)
func TestJoinAsOne(t *testing.T) {
	p := hangs(1, 20, 8, lays("ab"), copies(5, 4), lays("cd"))
	for _, x := range []struct {
		q     []byte
		parts []piece
	}{
		{hangs(2, 8, 4, copies(0, 2), copies(6, 2)), []piece{lays("abcd")}},              // two lays that were apart
		{hangs(2, 8, 3, lays("x"), copies(0, 2)), []piece{lays("xab")}},                  // a lay ahead of one
		{hangs(2, 8, 3, copies(6, 2), lays("x")), []piece{lays("cdx")}},                  // behind one
		{hangs(2, 8, 4, lays("x"), copies(1, 1), lays("yz")), []piece{lays("xbyz")}},     // on both sides
		{hangs(2, 8, 3, copies(1, 1), copies(0, 1), copies(0, 1)), []piece{lays("baa")}}, // pieces of one
		{hangs(2, 8, 4, copies(0, 2), copies(0, 2)), []piece{lays("abab")}},              // one twice
		{hangs(2, 8, 6, copies(0, 2), copies(6, 1), copies(2, 2), lays("!")), []piece{lays("abc"), copies(5, 2), lays("!")}},
		{hangs(2, 8, 8, copies(6, 2), copies(0, 6)), []piece{lays("cdab"), copies(5, 4)}},
	} {
		comes(t, p, x.q, x.parts...)
	}
	p = hangs(1, 20, 9, copies(7, 3), lays("x"), copies(10, 2), copies(4, 3)) // 7 8 9, x, 10 11, 4 5 6
	for _, x := range []struct {
		q     []byte
		parts []piece
	}{
		{hangs(2, 9, 5, copies(0, 3), copies(4, 2)), []piece{copies(7, 5)}},                                         // what stood between is left out
		{hangs(2, 9, 6, copies(6, 3), copies(0, 3)), []piece{copies(4, 6)}},                                         // turned round
		{hangs(2, 9, 8, copies(6, 3), copies(0, 3), copies(4, 2)), []piece{copies(4, 8)}},                           // three of them
		{hangs(2, 9, 2, copies(2, 1), copies(4, 1)), []piece{copies(9, 2)}},                                         // pieces
		{hangs(2, 9, 5, copies(0, 4), lays("y")), []piece{copies(7, 3), lays("xy")}},                                // a lay in the first, and behind it
		{hangs(2, 9, 4, copies(0, 3), copies(5, 1)), []piece{copies(7, 3), copies(11, 1)}},                          // one behind it
		{hangs(2, 9, 5, copies(0, 2), copies(4, 2), copies(3, 1)), []piece{copies(7, 2), copies(10, 2), lays("x")}}, // one ahead
	} {
		comes(t, p, x.q, x.parts...)
	}
	comes(t, hangs(1, 9, 4, copies(0, 2), copies(0, 2)), hangs(2, 4, 4, copies(0, 4)), copies(0, 2), copies(0, 2))
	comes(t, hangs(1, 9, 4, copies(2, 2), copies(0, 2)), hangs(2, 4, 4, copies(2, 2), copies(0, 2)), copies(0, 4))
}

// P25.4: patches without parts, and of lays alone.
func TestJoinNothing(t *testing.T) {
	comes(t, hangs(1, 5, 0), hangs(2, 0, 3, lays("abc")), lays("abc"))
	comes(t, hangs(1, 5, 3, copies(1, 3)), hangs(2, 3, 0))
	comes(t, hangs(1, 0, 3, lays("abc")), hangs(2, 3, 3, lays("xyz")), lays("xyz"))
	comes(t, hangs(1, 0, 3, lays("abc")), hangs(2, 3, 3, copies(0, 3)), lays("abc"))
	comes(t, hangs(1, most, 0), hangs(2, 0, 0))
}

// P25.4, P25.5: the parts tell of every row, not of that with the old hash alone, what q's tell of what p's tell: asked of Apply, with the hashes of other rows.
func TestJoinEveryRow(t *testing.T) {
	r := rand.New(rand.NewSource(259))
	for range 2000 {
		old := anyBytes(r, r.Intn(40))
		p, mid := anyPatch(r, old)
		q, _ := anyPatch(r, mid)
		j, f := joins(t, p, q)
		if f.e != api.OK {
			t.Fatal(f)
		}
		for range 4 {
			row := make([]byte, len(old))
			r.Read(row)
			next := told(read(q).parts, told(read(p).parts, row))
			gives(t, row, slices.Concat(j[:5], hash(row), hash(next), j[69:]), string(next))
		}
	}
}

// P25.4, P25.5: many patches in a row, joined from either end: each tells the last row of the first one.
func TestJoinChain(t *testing.T) {
	r := rand.New(rand.NewSource(260))
	for range 500 {
		first := anyBytes(r, r.Intn(60))
		row := first
		var chain [][]byte
		for range 2 + r.Intn(9) {
			var p []byte
			p, row = anyStep(t, r, row)
			chain = append(chain, p)
		}
		left, right := chain[0], chain[len(chain)-1]
		for i := range chain[1:] {
			var f, g fault
			left, f = joins(t, left, chain[i+1])
			right, g = joins(t, chain[len(chain)-2-i], right)
			if f.e != api.OK || g.e != api.OK {
				t.Fatal(f, g)
			}
		}
		gives(t, first, left, string(row))
		gives(t, first, right, string(row))
		if !bytes.Equal(left, right) {
			t.Fatalf("%x, %x", left, right)
		}
	}
}

// P25.4: any byte of both patches turned, left out or put in.
func TestJoinAny(t *testing.T) {
	r := rand.New(rand.NewSource(261))
	seen := map[api.Errno]int{}
	for range 4000 {
		old := anyBytes(r, r.Intn(40))
		p, mid := anyStep(t, r, old)
		q, _ := anyStep(t, r, mid)
		for range 4 {
			a, b := p, q
			switch r.Intn(5) {
			case 0:
				a = changed(r, p)
			case 1:
				b = changed(r, q)
			case 2:
				a, b = changed(r, p), changed(r, q)
			case 3:
				b = with(q, 5+r.Intn(64), byte(r.Intn(256)))
			}
			_, f := joins(t, a, b)
			seen[f.e]++
		}
	}
	for _, e := range []api.Errno{api.OK, api.ErrShort, api.ErrForm, api.ErrRest, api.ErrState} {
		if seen[e] < 500 {
			t.Errorf("%v was answered %d times", e, seen[e])
		}
	}
}

// P25.4, R1: patches of as many parts as there can be: Join ends soon, and makes one what goes on.
func TestJoinMost(t *testing.T) {
	if testing.Short() {
		t.Skip("rows as long as may be")
	}
	row := make([]byte, most)
	rand.New(rand.NewSource(262)).Read(row)
	back := slices.Clone(row)
	slices.Reverse(back)
	var turned []piece
	for i := range uint32(most) {
		turned = append(turned, copies(most-1-i, 1))
	}
	comes(t, hangs(1, most, most, turned...), hangs(2, most, most, turned...), copies(0, most))
	comes(t, hangs(1, 0, most, lays(string(row))), hangs(2, most, most, turned...), lays(string(back)))
	comes(t, hangs(1, most, most, turned...), hangs(2, most, most, copies(0, most)), turned...)
	comes(t, hangs(1, most, most, copies(0, most)), hangs(2, most, most, turned...), turned...)
	var mixed, picked []piece
	for i := range uint32(most / 2) {
		mixed = append(mixed, lays("x"), copies(i, 1))
		picked = append(picked, copies(2*(i%4), 1), lays("y")) // of what is told always an x
	}
	comes(t, hangs(1, most, most, mixed...), hangs(2, most, most, picked...), lays(string(bytes.Repeat([]byte("xy"), most/2))))
}

// FuzzJoin holds Join of two rows of parts, each read as a patch's, against the second reading.
func FuzzJoin(f *testing.F) {
	f.Add(uint32(9), uint32(6), uint32(3), copies(0, 6).written(), lays("abc").written())
	f.Add(uint32(9), uint32(3), uint32(4), slices.Concat(copies(2, 2).written(), lays("x").written()), slices.Concat(copies(1, 2).written(), copies(0, 2).written()))
	f.Fuzz(func(t *testing.T, a, b, c uint32, first, second []byte) {
		joins(t, slices.Concat(hangs(1, a, b), first), slices.Concat(hangs(2, b, c), second))
	})
}
