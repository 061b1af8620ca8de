package stream_test

import (
	"math/rand"
	"slices"
	"testing"

	"portcullis/api"
)

// someImages are such that a bench's gate takes, with payloads of all kinds of lengths.
func someImages(r *rand.Rand, slot, key int, version int64) [][]byte {
	var l [][]byte
	for _, n := range []int{0, 1, 2, 15, 16, 17, 31, 32, 33, 47, 48, 64, 65, 200} {
		l = append(l, right(slot, key, version, anyBytes(r, n)...))
	}
	return l
}

// P26.1, P26.2: an image that is written whole, byte by byte, and in pieces of every other length: OK each, and Sum tells it behind the last byte alone.
func TestEvenPieces(t *testing.T) {
	r := rand.New(rand.NewSource(261))
	x := ordinary(t)
	for _, b := range someImages(r, 1, 5, 7) {
		for n := 1; n <= len(b); n++ {
			f := x.flow()
			for i, p := range each(b, n) {
				f.expects(t, string(p), api.OK)
				if len(f.all) < len(b) {
					f.ends(t, api.ErrShort)
				}
				if i%16 == 0 {
					f.digests(t)
				}
			}
			f.ends(t, api.OK)
			f.digests(t)
		}
	}
}

// P26.1, P26.2: an image cut at every place into two pieces, with none, one or more pieces of no bytes ahead, between and behind.
func TestTwoPieces(t *testing.T) {
	r := rand.New(rand.NewSource(262))
	x := ordinary(t)
	for _, b := range someImages(r, 2, 0, 20) {
		for at := range len(b) + 1 {
			f := x.flow()
			if write, sum := f.takes(t, b[:at], b[at:]); write != api.OK || sum != api.OK {
				t.Fatalf("%s cut at %d: %d, %d", short(b), at, write, sum)
			}
			f.resets(t)
			if write, sum := f.takes(t, nil, b[:at], []byte{}, nil, b[at:], nil, []byte{}); write != api.OK || sum != api.OK {
				t.Fatalf("%s cut at %d: %d, %d", short(b), at, write, sum)
			}
		}
	}
}

// P26.1, P26.2: rows of all kinds in many random pieces, with pieces of no bytes between.
func TestManyPieces(t *testing.T) {
	r := rand.New(rand.NewSource(263))
	x := ordinary(t)
	var writes, sums [20]int
	for range 2500 {
		write, sum := x.flow().takes(t, cut(r, anyRow(r, x))...)
		writes[write]++
		sums[sum]++
	}
	for _, e := range []api.Errno{api.OK, api.ErrForm, api.ErrRest, api.ErrKey, api.ErrRevoked} {
		if writes[e] < 25 || sums[e] < 25 {
			t.Errorf("%d: %d Writes, %d Sums", e, writes[e], sums[e])
		}
	}
	for _, e := range []api.Errno{api.ErrShort, api.ErrTag, api.ErrVersion} {
		if writes[e] != 0 || sums[e] < 25 {
			t.Errorf("%d: %d Writes, %d Sums", e, writes[e], sums[e])
		}
	}
}

// answers are what Writes of a row's pieces answered, by how many bytes were written then.
func answers(t *testing.T, x *bench, pieces [][]byte) map[int]api.Errno {
	t.Helper()
	f := x.flow()
	l := map[int]api.Errno{}
	for _, p := range pieces {
		l[len(f.all)+len(p)] = f.writes(t, p)
	}
	return l
}

// P26.1: a Write answers what the bytes tell that were written by then, whatever the pieces were: as one of all of them, in one piece, does.
func TestPiecesDoNotCount(t *testing.T) {
	r := rand.New(rand.NewSource(264))
	x := ordinary(t)
	for range 300 {
		b := anyRow(r, x)
		var alone []api.Errno
		for n := range len(b) + 1 {
			alone = append(alone, x.flow().writes(t, b[:n]))
		}
		for range 4 {
			for n, e := range answers(t, x, cut(r, b)) {
				if e != alone[n] {
					t.Fatalf("%s: %d behind %d bytes, %d in one piece", short(b), e, n, alone[n])
				}
			}
		}
		for n, e := range answers(t, x, each(b, 1)) {
			if e != alone[n] {
				t.Fatalf("%s: %d behind %d bytes, %d in one piece", short(b), e, n, alone[n])
			}
		}
	}
}

// P26.1: each byte at each place of a head, ahead of it OK, with it and behind it what it must be; of the payload and the tag no Write tells anything, but Sum does.
func TestEachByte(t *testing.T) {
	x := ordinary(t)
	b := right(1, 1, 5, 'p', 'q')
	f := x.flow()
	for at := range b {
		for v := range 256 {
			if at >= 16 && v%37 != 0 {
				continue
			}
			c := with(b, at, byte(v))
			f.resets(t)
			f.expects(t, string(c[:at]), api.OK)
			e := f.writes(t, c[at:at+1])
			if want := x.tells(c[:at+1]); e != want {
				t.Fatalf("%02x at %d: %d, want %d", v, at, e, want)
			}
			f.writes(t, c[at+1:])
			f.sums(t)
			f.writes(t, []byte{0})
			f.ends(t, f.x.judges(behind(c, 0)).e)
		}
	}
}

// P26.1: what a wrong byte tells, written out: each place whose byte must be one value, with each other value.
func TestWrongByte(t *testing.T) {
	x := ordinary(t)
	b := right(1, 1, 5, 'p', 'q')
	for _, at := range []int{0, 1, 2, 3, 4, 7} {
		for v := range 256 {
			f := x.flow()
			if byte(v) == b[at] {
				continue
			}
			f.expects(t, string(b[:at]), api.OK)
			f.expects(t, string([]byte{byte(v)}), api.ErrForm)
			f.ends(t, api.ErrForm)
			for _, c := range b[at+1:] {
				f.expects(t, string([]byte{c}), api.ErrForm)
			}
			f.expects(t, "more", api.ErrForm)
			f.ends(t, api.ErrForm)
		}
	}
}

// P26.1: a length that no image has is told as soon as its last byte is there, and not ahead of it.
func TestTooLong(t *testing.T) {
	x := ordinary(t)
	for _, c := range []struct {
		length string
		want   api.Errno
	}{
		{"\xd0\xff\x07\x00", api.OK}, {"\xd1\xff\x07\x00", api.ErrForm}, {"\x00\x00\x08\x00", api.ErrForm}, {"\xff\xff\xff\xff", api.ErrForm},
		{"\x00\x00\x00\x01", api.ErrForm}, {"\x00\x00\x00\x80", api.ErrForm}, {"\x00\x00\x00\x00", api.OK}, {"\xff\xff\x00\x00", api.OK},
	} {
		f := x.flow()
		f.expects(t, string(right(0, 0, 1)[:12]), api.OK)
		for _, v := range []byte(c.length[:3]) {
			f.expects(t, string([]byte{v}), api.OK)
		}
		f.expects(t, c.length[3:], c.want)
		f.expects(t, "x", c.want)
	}
}

// P26.1: a byte and many behind an image, in the piece with its end, in one of their own and one by one: ErrRest from the first one on.
func TestRest(t *testing.T) {
	r := rand.New(rand.NewSource(265))
	x := ordinary(t)
	for _, b := range someImages(r, 1, 1, 9) {
		for _, rest := range [][]byte{{0}, {0xff}, anyBytes(r, 2), anyBytes(r, 500), b} {
			f := x.flow()
			f.expects(t, string(behind(b, rest...)), api.ErrRest)
			f.ends(t, api.ErrRest)
			f.resets(t)
			f.expects(t, string(b[:len(b)-1]), api.OK)
			f.expects(t, string(behind(b[len(b)-1:], rest...)), api.ErrRest)
			f.ends(t, api.ErrRest)
			f.resets(t)
			f.expects(t, string(b), api.OK)
			f.ends(t, api.OK)
			f.expects(t, string(rest), api.ErrRest)
			f.ends(t, api.ErrRest)
			f.resets(t)
			f.expects(t, string(b), api.OK)
			for _, v := range rest {
				f.expects(t, string([]byte{v}), api.ErrRest)
			}
			f.ends(t, api.ErrRest)
			f.expects(t, "", api.ErrRest)
			f.digests(t)
		}
	}
}

// P26.1: of two things that are wrong the first one of the list is told.
func TestTwoWrong(t *testing.T) {
	x := ordinary(t)
	for _, c := range []struct {
		b    []byte
		want api.Errno
	}{
		{behind(right(3, 0, 1), 0), api.ErrRest},                           // bytes behind an image, a slot
		{behind(right(0, 7, 1), 0), api.ErrRest},                           // .., no key of the chip
		{behind(right(0, 2, 1), 0), api.ErrRest},                           // .., a revoked key
		{with(right(3, 0, 1), 7, 1), api.ErrForm},                          // the place 7, a slot
		{with(right(0, 7, 1), 7, 1), api.ErrForm},                          // .., a key
		{with(right(0, 2, 1), 7, 1), api.ErrForm},                          // .., a revoked one
		{behind(with(right(0, 2, 1), 7, 1), 0), api.ErrForm},               // .., and bytes behind it
		{with(right(0, 2, 1), 15, 1), api.ErrForm},                         // the length, a revoked key
		{with(right(0, 2, 1), 0, 'Q')[:7], api.ErrForm},                    // the place 0, a revoked key
		{with(right(3, 2, 1), 6, 64)[:7], api.ErrForm},                     // a slot of no store's, a key of no chip's
		{right(3, 7, 1), api.ErrForm},                                      // a slot, a key
		{right(3, 7, 1)[:7], api.ErrForm},                                  // the same, as soon as both are there
		{right(3, 2, 1), api.ErrForm},                                      // a slot, a revoked key
		{right(0, 3, 1), api.ErrKey},                                       // a key that the ring lacks, and that is revoked
		{right(0, 3, 1)[:7], api.ErrKey},                                   // the same
		{by(5, 0, 2, 90), api.ErrRevoked},                                  // a revoked key, a tag and a version
		{by(5, 0, 7, 90), api.ErrKey},                                      // a key, a tag and a version
		{by(5, 3, 1, 90), api.ErrForm},                                     // a slot, a tag and a version
		{by(5, 0, 1, 90), api.OK},                                          // a tag and a version: no Write tells these
		{behind(make([]byte, mostBytes), 0), api.ErrBytes},                 // too many bytes, the place 0
		{behind(right(3, 2, 1), make([]byte, mostBytes)...), api.ErrBytes}, // .., a slot, a key and what is behind
	} {
		f := x.flow()
		if write, _ := f.takes(t, c.b); write != c.want {
			t.Errorf("%s: %d, want %d", short(c.b), write, c.want)
		}
		f.resets(t)
		if len(c.b) < 200 {
			f.takes(t, each(c.b, 1)...)
		}
		f.expects(t, "", f.x.tells(f.all))
	}
}

// P26.1: each byte at the place 5, on chips of each number of slots: told with that byte, not ahead of it, and from then on.
func TestSlots(t *testing.T) {
	for slots := 1; slots <= mostSlots; slots++ {
		x := benchOf(t, api.Config{Cells: 12, Slots: slots, Fuses: 2, Step: 3, Keys: 1}, 0)
		for v := range 256 {
			want := api.OK
			if v >= slots {
				want = api.ErrForm
			}
			f := x.flow()
			b := right(v, 0, 1, 'p')
			f.expects(t, "PCUL\x01", api.OK)
			f.ends(t, api.ErrShort)
			for _, c := range b[5:] {
				f.expects(t, string([]byte{c}), want)
			}
			f.ends(t, want)
			f.resets(t)
			f.expects(t, string(b), want)
			f.ends(t, want)
		}
	}
}

// P26.1: each byte at the place 6: keys that the ring has and the chip has, that one of them has, that neither has, revoked and not; told with that byte, not ahead of it.
func TestKeys(t *testing.T) {
	for _, c := range []struct {
		keys           int
		known, revoked []int
	}{
		{1, []int{0}, nil}, {1, []int{0}, []int{0}}, {1, nil, nil}, {1, nil, []int{0}}, {1, []int{1, 63}, nil},
		{6, []int{0, 1, 2, 5, 6, 7, 63}, []int{2, 3, 5}}, {64, upTo(64), []int{0, 31, 63}}, {64, []int{63}, nil}, {63, upTo(64), []int{62}}, {64, nil, upTo(64)},
	} {
		x := benchOf(t, api.Config{Cells: 8, Slots: 1, Fuses: 2, Step: 3, Keys: c.keys}, c.known...)
		for _, k := range c.revoked {
			x.revoke(t, k)
		}
		for v := range 256 {
			want := api.OK
			switch {
			case v > 63:
				want = api.ErrForm
			case v >= c.keys || !slices.Contains(c.known, v):
				want = api.ErrKey
			case slices.Contains(c.revoked, v):
				want = api.ErrRevoked
			}
			f := x.flow()
			b := right(0, v, 1, 'p')
			f.expects(t, string(b[:5]), api.OK)
			f.expects(t, string(b[5:6]), api.OK)
			f.ends(t, api.ErrShort)
			for _, c := range b[6:] {
				f.expects(t, string([]byte{c}), want)
			}
			f.ends(t, want)
			f.resets(t)
			f.expects(t, string(b), want)
			f.ends(t, want)
		}
	}
}
