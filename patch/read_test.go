package patch_test

import (
	"bytes"
	"errors"
	"math"
	"math/rand"
	"slices"
	"testing"

	"portcullis/api"
	"portcullis/patch"
)

// P25.2: the chapter's examples.
func TestReadExamples(t *testing.T) {
	good := between("abc", "bcx", copies(1, 2), lays("x"))
	if !bytes.Equal(good[77:], []byte{1, 1, 0, 0, 0, 2, 0, 0, 0, 2, 1, 0, 0, 0, 0x78}) {
		t.Fatalf("%x", good[77:])
	}
	info, err := patch.Read(good)
	if err != nil || info != (patch.Info{Old: hashOf([]byte("abc")), New: hashOf([]byte("bcx")), Before: 3, After: 3, Parts: 2, Laid: 1}) {
		t.Errorf("%+v, %v", info, err)
	}
	for _, x := range []struct {
		p  []byte
		e  api.Errno
		at int
	}{
		{nil, api.ErrShort, 0},
		{[]byte{0x50, 0x43}, api.ErrShort, 2},
		{[]byte{0x51}, api.ErrForm, 0},
		{append(slices.Clone(good), 0), api.ErrRest, len(good)},
		{append(between("abc", "x"), 3), api.ErrForm, 77},
		{between("abc", "x", copies(3, 1)), api.ErrForm, 77},                // beyond the old row
		{between("abc", "x", copies(0, 0)), api.ErrForm, 77},                // of no bytes
		{between("abc", "x", copies(0, 2)), api.ErrForm, 77},                // beyond the new row
		{between("abc", "xy", lays("x"), lays("y")), api.ErrForm, 83},       // a lay behind a lay
		{between("abc", "ab", copies(0, 1), copies(1, 1)), api.ErrForm, 86}, // a copy that goes on
	} {
		fails(t, x.p, x.e, x.at)
	}
}

// P25.2: what Read tells of right patches.
func TestReadRight(t *testing.T) {
	for _, p := range patches() {
		if x := reads(t, p); x.e != api.OK {
			t.Errorf("%x: %v at %d", p, x.e, x.at)
		}
	}
	info, err := patch.Read(sized(70000, 65536+258, copies(1, 65536), lays("\x00"), copies(257, 257)))
	if err != nil || info != (patch.Info{Old: api.Hash{1, 2}, New: api.Hash{3, 4}, Before: 70000, After: 65794, Parts: 3, Laid: 1}) {
		t.Errorf("%+v, %v", info, err)
	}
	r := rand.New(rand.NewSource(254))
	for range 3000 {
		old := anyBytes(r, r.Intn(50))
		p, next := anyPatch(r, old)
		if x := reads(t, p); x.e != api.OK || int(x.after) != len(next) {
			t.Fatalf("%x: %v at %d", p, x.e, x.at)
		}
	}
}

// P25.2: each byte of both hashes and what is laid may be any.
func TestReadHashes(t *testing.T) {
	p := between("abc", "bcx", copies(1, 2), lays("x"))
	for at := 5; at < 69; at++ {
		for v := range 256 {
			right(t, with(p, at, byte(v)), 2)
		}
	}
	for v := range 256 {
		right(t, with(p, len(p)-1, byte(v)), 2)
	}
}

// P25.2: bytes that end too early: each right patch cut at every length.
func TestReadShort(t *testing.T) {
	fails(t, nil, api.ErrShort, 0)
	fails(t, []byte{}, api.ErrShort, 0)
	for _, p := range patches() {
		for n := range p {
			fails(t, p[:n], api.ErrShort, n)
			fails(t, slices.Clone(p[:n]), api.ErrShort, n)
		}
	}
}

// P25.2: each byte of the mark and the 01, turned to each of its values.
func TestReadMark(t *testing.T) {
	p := between("abc", "bcx", copies(1, 2), lays("x"))
	for at := range 5 {
		for v := range 256 {
			c := with(p, at, byte(v))
			if byte(v) == p[at] {
				right(t, c, 2)
				continue
			}
			fails(t, c, api.ErrForm, at)
			fails(t, c[:at+1], api.ErrForm, at)
			fails(t, c[:at], api.ErrShort, at)
			fails(t, append(c, 1), api.ErrForm, at)
		}
	}
}

// P25.2: both numbers of bytes at the greatest that they may be, one more and the greatest; nothing is told of one that is not all there.
func TestReadNumbers(t *testing.T) {
	p := between("abc", "bcx", copies(1, 2), lays("x"))
	for _, at := range []int{69, 73} {
		for _, n := range []uint32{most + 1, most + 2, 2 * most, 1 << 24, 1<<31 - 1, 1 << 31, 1<<31 + 3, math.MaxUint32 - 1, math.MaxUint32} {
			c := with(p, at, four(n)...)
			fails(t, c, api.ErrForm, at)
			for end := range c {
				if end < at+4 {
					fails(t, c[:end], api.ErrShort, end)
				} else {
					fails(t, c[:end], api.ErrForm, at)
				}
			}
		}
	}
	right(t, with(p, 69, four(most)...), 2)
	fails(t, with(p, 73, four(most)...), api.ErrShort, len(p))
	fails(t, with(p, 73, four(4)...), api.ErrShort, len(p))
	fails(t, with(p, 73, four(2)...), api.ErrRest, 86)
	fails(t, with(p, 73, four(1)...), api.ErrForm, 77)
	fails(t, with(p, 73, four(0)...), api.ErrRest, 77)
	fails(t, with(p, 69, four(2)...), api.ErrForm, 77)
	fails(t, with(with(p, 69, four(most+1)...), 73, four(most+1)...), api.ErrForm, 69)
	right(t, sized(most, most, copies(0, most)), 1)
	right(t, sized(0, most, lays(string(make([]byte, most)))), 1)
	right(t, sized(most, 0), 0)
	fails(t, sized(most+1, 0), api.ErrForm, 69)
	fails(t, sized(0, most+1, lays(string(make([]byte, most+1)))), api.ErrForm, 73)
}

// P25.2: a part's first byte, of all values, at the first part and at a later one.
func TestReadKinds(t *testing.T) {
	for _, ahead := range [][]piece{nil, {lays("ab")}, {copies(1, 2)}, {lays("a"), copies(0, 1)}} {
		p := sized(9, 20, ahead...)
		for v := range 256 {
			for _, more := range [][]byte{nil, {0}, bytes.Repeat([]byte{0}, 30), bytes.Repeat([]byte{255}, 30), append(four(1), bytes.Repeat([]byte{0}, 30)...)} {
				c := append(append(slices.Clone(p), byte(v)), more...)
				if v != 1 && v != 2 {
					fails(t, c, api.ErrForm, len(p))
				}
				reads(t, c)
			}
		}
		fails(t, p, api.ErrShort, len(p))
	}
}

// P25.2: a part whose numbers are not all there: ErrShort, whatever they would be.
func TestReadPartShort(t *testing.T) {
	for _, ahead := range [][]piece{nil, {lays("ab")}, {copies(1, 2)}} {
		p := sized(9, 20, ahead...)
		for kind, length := range map[byte]int{1: 8, 2: 4} {
			for _, v := range []byte{0, 1, 2, 255} {
				for n := range length {
					c := append(append(slices.Clone(p), kind), bytes.Repeat([]byte{v}, n)...)
					fails(t, c, api.ErrShort, len(c))
				}
			}
		}
	}
}

// edges are numbers at which something might go wrong.
func edges(near ...uint32) []uint32 {
	l := []uint32{0, 1, 2, most - 1, most, most + 1, 1<<31 - 1, 1 << 31, 1<<31 + 1, math.MaxUint32 - 1, math.MaxUint32}
	for _, n := range near {
		l = append(l, n-1, n, n+1, -n, 1<<31-n, 1<<31+n)
	}
	return l
}

// P25.2: copies with each pair of such numbers: no sum wraps round.
func TestReadCopies(t *testing.T) {
	for _, before := range []uint32{0, 1, 5, 300, most} {
		for _, after := range []uint32{1, 5, 300, most} {
			for _, from := range edges(before, after) {
				for _, n := range edges(before, after) {
					p := sized(before, after, copies(from, n))
					x := reads(t, p)
					may := n >= 1 && uint64(n) <= uint64(after) && uint64(from)+uint64(n) <= uint64(before)
					switch {
					case !may && (x.e != api.ErrForm || x.at != 77):
						t.Fatalf("%d, %d of %d, %d: %v at %d", from, n, before, after, x.e, x.at)
					case may && n == after && x.e != api.OK, may && n < after && (x.e != api.ErrShort || x.at != 86):
						t.Fatalf("%d, %d of %d, %d: %v at %d", from, n, before, after, x.e, x.at)
					}
				}
			}
		}
	}
}

// P25.2: the same numbers behind other parts, which have taken some of the new row.
func TestReadCopiesBehind(t *testing.T) {
	for _, ahead := range [][]piece{{lays("ab")}, {copies(3, 2)}, {lays("a"), copies(4, 1)}, {copies(0, 1), lays("b")}} {
		for _, from := range edges(5, 8, 3) {
			for _, n := range edges(5, 8, 3) {
				p := sized(8, 5, append(slices.Clone(ahead), copies(from, n))...)
				may := n == 3 && from <= 5 && !meets(ahead[len(ahead)-1], copies(from, n))
				if x := reads(t, p); may != (x.e == api.OK) {
					t.Fatalf("%d, %d: %v at %d", from, n, x.e, x.at)
				}
			}
		}
	}
}

// P25.2: lays with such numbers, with all bytes, some and none behind them: what they may be is asked ahead of their bytes.
func TestReadLays(t *testing.T) {
	for _, after := range []uint32{1, 2, 5, 300} {
		for _, n := range edges(after) {
			for _, there := range []int{0, 1, 2, int(after) - 1, int(after), int(after) + 1} {
				p := sized(9, after, piece{lays: true, n: n, bytes: make([]byte, there)})
				switch {
				case n < 1 || n > after:
					fails(t, p, api.ErrForm, 77)
				case there < int(n):
					fails(t, p, api.ErrShort, len(p))
				case n == after && there > int(n):
					fails(t, p, api.ErrRest, 82+int(n))
				case n == after:
					right(t, p, 1)
				default:
					reads(t, p)
				}
			}
		}
	}
	fails(t, sized(9, 5, lays("ab"), copies(0, 1), piece{lays: true, n: 3, bytes: []byte("x")}), api.ErrForm, 93) // too long, and not all there
	fails(t, sized(9, 5, lays("ab"), piece{lays: true, n: 3, bytes: []byte("x")}), api.ErrForm, 84)               // behind a lay, and not all there
	fails(t, sized(9, 5, lays("ab"), copies(0, 1), piece{lays: true, n: 2, bytes: []byte("x")}), api.ErrShort, 99)
}

// P25.2: which parts may stand right behind which.
func TestReadBehind(t *testing.T) {
	fails(t, sized(9, 2, lays("a"), lays("b")), api.ErrForm, 83)
	fails(t, sized(9, 3, copies(1, 1), lays("a"), lays("b")), api.ErrForm, 92)
	fails(t, sized(9, 5, copies(2, 3), copies(5, 2)), api.ErrForm, 86)
	fails(t, sized(9, 9, copies(2, 3), copies(5, 2)), api.ErrForm, 86)
	fails(t, sized(9, 6, copies(0, 1), copies(2, 3), copies(5, 2)), api.ErrForm, 95)
	right(t, sized(9, 5, copies(2, 3), copies(4, 2)), 2)
	right(t, sized(9, 5, copies(2, 3), copies(6, 2)), 2)
	right(t, sized(9, 5, copies(2, 3), copies(2, 2)), 2)
	right(t, sized(9, 6, copies(2, 3), copies(2, 3)), 2)
	right(t, sized(9, 5, copies(2, 3), copies(0, 2)), 2) // which ends where that one begins
	right(t, sized(9, 6, copies(2, 3), lays("x"), copies(5, 2)), 3)
	right(t, sized(9, 6, copies(2, 3), copies(0, 1), copies(5, 2)), 3)
	right(t, sized(9, 6, copies(0, 3), copies(0, 3)), 2)
	fails(t, sized(9, 6, copies(0, 3), copies(3, 3)), api.ErrForm, 86)
	fails(t, sized(most, 2, copies(most-2, 1), copies(most-1, 1)), api.ErrForm, 86)
	right(t, sized(9, 3, lays("x"), copies(0, 1), lays("y")), 3)
	right(t, sized(9, 4, lays("x"), copies(1, 2), lays("y")), 3) // whose from would be the lay's n
}

// P25.2: bytes behind the parts, one and many, parts among them.
func TestReadRest(t *testing.T) {
	for _, p := range patches() {
		for _, rest := range [][]byte{{0}, {1}, {2}, {3}, {255}, {1, 0, 0}, lays("x").written(), copies(0, 1).written(), p, make([]byte, 100000)} {
			fails(t, slices.Concat(p, rest), api.ErrRest, len(p))
		}
	}
	fails(t, sized(9, 0, lays("x")), api.ErrRest, 77)
	fails(t, sized(9, 0, copies(0, 0)), api.ErrRest, 77)
	fails(t, sized(9, 0, copies(0, 1), lays("x")), api.ErrRest, 77)
	fails(t, sized(9, 1, lays("x"), lays("y")), api.ErrRest, 83)
}

// P25.2: of two things that are wrong the first from the left is told.
func TestReadFirst(t *testing.T) {
	p := sized(9, 8, copies(2, 3), lays("xy"), copies(5, 2), lays("z"))
	type spot struct {
		at, told, end int // which byte is turned, where that is told, and how many bytes must be there
		v             byte
	}
	spots := []spot{
		{0, 0, 1, 'p'}, {1, 1, 2, 'c'}, {2, 2, 3, 'p'}, {3, 3, 4, 't'}, {4, 4, 5, 0}, {72, 69, 73, 1}, {76, 73, 77, 128},
		{77, 77, 78, 0}, {78, 77, 86, 7}, {82, 77, 86, 9}, {82, 77, 86, 0}, {86, 86, 87, 3}, {87, 86, 91, 0}, {87, 86, 91, 6}, {90, 86, 91, 255},
		{93, 93, 94, 255}, {94, 93, 102, 8}, {97, 93, 102, 128}, {98, 93, 102, 0}, {101, 93, 102, 1}, {102, 102, 103, 4}, {103, 102, 107, 2},
	}
	for _, a := range spots {
		fails(t, with(p, a.at, a.v), api.ErrForm, a.told)
		fails(t, append(with(p, a.at, a.v), 1), api.ErrForm, a.told)
		for _, b := range spots {
			if a.told < b.told {
				fails(t, with(with(p, b.at, b.v), a.at, a.v), api.ErrForm, a.told)
			}
		}
		for n := range p {
			if n >= a.end {
				fails(t, with(p, a.at, a.v)[:n], api.ErrForm, a.told)
			} else {
				fails(t, with(p, a.at, a.v)[:n], api.ErrShort, n)
			}
		}
	}
}

// P25.2: each byte of right patches, turned to each of its values, left out, and put in.
func TestReadEach(t *testing.T) {
	for _, p := range patches() {
		p = p[:min(len(p), 200)]
		for at := range p {
			for v := range 256 {
				reads(t, with(p, at, byte(v)))
			}
			for _, v := range []byte{0, 1, 2, 3, 255} {
				reads(t, slices.Insert(slices.Clone(p), at, v))
			}
			reads(t, slices.Delete(slices.Clone(p), at, at+1))
		}
	}
}

// P25.2: any byte turned, left out or put in, over many patches.
func TestReadAny(t *testing.T) {
	r := rand.New(rand.NewSource(255))
	seen := map[api.Errno]int{}
	for range 4000 {
		p, _ := anyPatch(r, anyBytes(r, r.Intn(40)))
		for range 8 {
			seen[reads(t, changed(r, p)).e]++
		}
	}
	for _, e := range []api.Errno{api.OK, api.ErrShort, api.ErrForm, api.ErrRest} {
		if seen[e] < 1000 {
			t.Errorf("%v was answered %d times", e, seen[e])
		}
	}
}

// P25.2: patches of as many parts as there can be.
func TestReadMany(t *testing.T) {
	if testing.Short() {
		t.Skip("rows as long as may be")
	}
	var back []piece
	for i := range uint32(most) {
		back = append(back, copies(most-1-i, 1))
	}
	p := sized(most, most, back...)
	right(t, p, most)
	fails(t, p[:len(p)-1], api.ErrShort, len(p)-1)
	fails(t, with(p, len(p)-9, 3), api.ErrForm, len(p)-9)
	fails(t, append(p, 0), api.ErrRest, len(p))
	var turns []piece
	for range most / 2 {
		turns = append(turns, lays("x"), copies(7, 1))
	}
	right(t, sized(8, most, turns...), most)
}

// P25.2: an error is a *Wrong, which errors.As finds, as it finds its number; beside it nothing else is told.
func TestReadError(t *testing.T) {
	p := between("abc", "bcx", copies(1, 2), lays("x"))
	for _, x := range []struct {
		p []byte
		w patch.Wrong
	}{{p[:80], patch.Wrong{E: api.ErrShort, At: 80}}, {with(p, 86, 9), patch.Wrong{E: api.ErrForm, At: 86}}, {append(slices.Clone(p), 1), patch.Wrong{E: api.ErrRest, At: 92}}} {
		info, err := patch.Read(x.p)
		var w *patch.Wrong
		var e api.Errno
		if !errors.As(err, &w) || *w != x.w || !errors.As(err, &e) || e != x.w.E || !errors.Is(err, x.w.E) || errors.Is(err, api.ErrState) {
			t.Errorf("%v, want %+v", err, x.w)
		}
		if info != (patch.Info{}) || err.Error() == "" {
			t.Errorf("%+v beside %q", info, err)
		}
	}
	if _, err := patch.Read(p); err != nil {
		t.Error(err)
	}
}

// R1: a hand-made Wrong tells a text and its number, whatever it holds.
func TestWrong(t *testing.T) {
	for _, e := range []api.Errno{api.OK, api.ErrForm, api.ErrChain, -1, math.MaxInt, math.MinInt} {
		for _, at := range []int{0, 5, -1, math.MaxInt, math.MinInt} {
			w := &patch.Wrong{E: e, At: at}
			if w.Error() == "" || w.Unwrap() != e {
				t.Errorf("%d, %d: %q, %v", e, at, w.Error(), w.Unwrap())
			}
		}
	}
}

// FuzzRead holds Read against the second reading, and Apply and Join of any bytes.
func FuzzRead(f *testing.F) {
	for _, p := range patches() {
		f.Add(p)
	}
	f.Add([]byte{})
	f.Fuzz(func(t *testing.T, p []byte) {
		reads(t, p)
		applies(t, []byte("abc"), p)
		joins(t, p, p)
	})
}
