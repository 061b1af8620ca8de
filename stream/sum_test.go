package stream_test

import (
	"math/rand"
	"testing"

	"portcullis/api"
	"portcullis/chip"
	"portcullis/stream"
)

// endings are rows that the ordinary bench's gate takes, or refuses: what the last Write of them answers, and Sum.
func endings() []struct {
	b          []byte
	write, sum api.Errno
} {
	return []struct {
		b          []byte
		write, sum api.Errno
	}{
		{right(1, 1, 5), api.OK, api.OK},
		{right(1, 1, 79, 'p'), api.OK, api.OK},
		{right(0, 5, 0, []byte("payload")...), api.OK, api.OK},
		{right(2, 0, 20), api.OK, api.OK},
		{nil, api.OK, api.ErrShort},
		{right(1, 1, 5)[:47], api.OK, api.ErrShort},
		{right(1, 1, 4), api.OK, api.ErrVersion},
		{right(1, 1, 80), api.OK, api.ErrVersion},
		{right(2, 1, 19), api.OK, api.ErrVersion},
		{right(0, 1, 1<<32-1), api.OK, api.ErrVersion},
		{by(0, 1, 1, 5), api.OK, api.ErrTag},
		{by(0, 1, 1, 4), api.OK, api.ErrTag},
		{with(right(1, 1, 5, 'p'), 16, 'q'), api.OK, api.ErrTag},
		{with(right(1, 1, 5), 8, 6), api.OK, api.ErrTag},
		{right(1, 2, 5), api.ErrRevoked, api.ErrRevoked},
		{by(0, 1, 2, 4), api.ErrRevoked, api.ErrRevoked},
		{right(1, 2, 5)[:7], api.ErrRevoked, api.ErrShort},
		{right(1, 3, 5), api.ErrKey, api.ErrKey},
		{right(1, 4, 5), api.ErrKey, api.ErrKey},
		{right(1, 7, 5), api.ErrKey, api.ErrKey},
		{right(1, 63, 5), api.ErrKey, api.ErrKey},
		{right(1, 7, 5)[:30], api.ErrKey, api.ErrShort},
		{right(3, 1, 5), api.ErrForm, api.ErrForm},
		{right(7, 2, 5), api.ErrForm, api.ErrForm},
		{right(3, 1, 5)[:6], api.ErrForm, api.ErrShort},
		{right(8, 1, 5), api.ErrForm, api.ErrForm},
		{right(8, 1, 5)[:6], api.ErrForm, api.ErrForm},
		{[]byte("x"), api.ErrForm, api.ErrForm},
		{behind(right(1, 1, 5), 'x'), api.ErrRest, api.ErrRest},
		{behind(right(1, 1, 5), right(1, 1, 5)...), api.ErrRest, api.ErrRest},
		{make([]byte, mostBytes+1), api.ErrBytes, api.ErrBytes},
	}
}

// P26.1, P26.2: Sum behind what the gate takes, and behind what it refuses for each of its reasons, written out; whole, in halves and in small pieces, twice in a row.
func TestSum(t *testing.T) {
	x := ordinary(t)
	for _, c := range endings() {
		for _, n := range []int{len(c.b) + 1, len(c.b)/2 + 1, max(3, len(c.b)/9)} {
			f := x.flow()
			write, sum := f.takes(t, each(c.b, n)...)
			if write != c.write || sum != c.sum {
				t.Errorf("%s: %d, %d, want %d, %d", short(c.b), write, sum, c.write, c.sum)
			}
			f.ends(t, c.sum)
			f.expects(t, "", f.x.tells(c.b))
			f.ends(t, c.sum)
		}
	}
}

// P26.1: what Sum tells of an image, written out: its slot, key, version, and how many bytes its payload has.
func TestSumTells(t *testing.T) {
	x := benchOf(t, api.Config{Cells: 11, Slots: 8, Fuses: 64, Step: 65536, Keys: 64}, upTo(64)...)
	for _, want := range []sum{{0, 0, 0, 0, 0}, {7, 63, 4259839, 1, 0}, {3, 0, 65536, 300, 0}, {0, 40, 1, 70000, 0}, {5, 1, 258, 2, 0}} {
		g := stream.New(x.store, x.ring)
		for _, p := range each(right(want.slot, want.key, want.version, make([]byte, want.payload)...), 1000) {
			if e := g.Write(p); e != api.OK {
				t.Fatal(e)
			}
		}
		var s sum
		if s.slot, s.key, s.version, s.payload, s.e = g.Sum(); s != want {
			t.Errorf("%+v, want %+v", s, want)
		}
	}
}

// P26.1: Sum asked between pieces changes nothing: what is written behind it counts as if it had not been asked.
func TestSumBetween(t *testing.T) {
	r := rand.New(rand.NewSource(271))
	x := ordinary(t)
	for range 500 {
		asked, quiet := x.flow(), x.flow()
		for _, p := range cut(r, anyRow(r, x)) {
			asked.asks(t)
			asked.asks(t)
			if asked.writes(t, p) != quiet.writes(t, p) {
				t.Fatalf("%s", short(quiet.all))
			}
		}
		if asked.asks(t) != quiet.asks(t) {
			t.Fatalf("%s", short(quiet.all))
		}
	}
}

// P26.1: a key that is revoked between two Writes, and between Write and Sum: the answers are as the store is now, also where no byte is written.
func TestRevokeBetween(t *testing.T) {
	b := right(1, 1, 7, []byte("payload")...)
	for at := range len(b) + 1 {
		x := ordinary(t)
		f, early := x.flow(), x.flow()
		f.expects(t, string(b[:at]), api.OK)
		early.takes(t, b)
		early.ends(t, api.OK)
		x.revoke(t, 5) // another one
		f.expects(t, "", api.OK)
		early.ends(t, api.OK)
		x.revoke(t, 1)
		want := api.OK
		if at > 6 {
			want = api.ErrRevoked
		}
		f.expects(t, "", want)
		early.ends(t, api.ErrRevoked)
		early.expects(t, "", api.ErrRevoked)
		if at < len(b) {
			f.ends(t, api.ErrShort)
			f.writes(t, b[at:])
		}
		f.ends(t, api.ErrRevoked)
		f.expects(t, "x", api.ErrRest)
	}
}

// P26.1: a counter that is raised between two Writes, and between Write and Sum: no Write tells that, and Sum as the store is now.
func TestRaiseBetween(t *testing.T) {
	b := right(1, 1, 7, []byte("payload")...)
	for at := range len(b) + 1 {
		x := ordinary(t)
		f, early := x.flow(), x.flow()
		early.takes(t, b)
		f.expects(t, string(b[:at]), api.OK)
		x.raise(t, 1, 7)
		x.raise(t, 0, 9)
		f.expects(t, string(b[at:]), api.OK)
		f.ends(t, api.OK)
		early.ends(t, api.OK)
		x.raise(t, 1, 8)
		f.ends(t, api.ErrVersion)
		early.ends(t, api.ErrVersion)
		f.expects(t, "", api.OK)
		f.resets(t)
		f.expects(t, string(b[:at]), api.OK)
		f.expects(t, string(b[at:]), api.OK)
		f.ends(t, api.ErrVersion)
	}
}

// P26.1: Reset behind anything, once and twice: nothing was written any more, and all begins again.
func TestReset(t *testing.T) {
	x := ordinary(t)
	fresh := x.flow()
	f := x.flow()
	f.resets(t)
	f.ends(t, api.ErrShort)
	for i, c := range endings() {
		for _, d := range endings() {
			f.resets(t)
			if i%2 == 1 {
				f.resets(t)
			}
			if f.g.Digest() != fresh.g.Digest() {
				t.Fatal("Digest of nothing")
			}
			f.ends(t, api.ErrShort)
			f.expects(t, "", api.OK)
			f.writes(t, d.b)
			f.ends(t, d.sum)
			f.resets(t)
			f.writes(t, c.b)
			f.ends(t, c.sum)
			if len(c.b) < 100 {
				f.digests(t)
			}
		}
	}
}

// P26.1, P26.2: Digest of nothing, behind each piece of a row, and of a row whatever was answered.
func TestDigest(t *testing.T) {
	r := rand.New(rand.NewSource(272))
	f := ordinary(t).flow()
	for n := range 200 {
		f.resets(t)
		f.digests(t)
		b := anyBytes(r, n)
		for _, p := range cut(r, b) {
			f.writes(t, p)
			f.digests(t)
			f.digests(t)
		}
		if f.g.Digest() != hashOf(b) {
			t.Fatalf("Digest of %x", b)
		}
	}
}

// P26.1: several gates over one store, written to in turn: none sees what is written to another one.
func TestSeveral(t *testing.T) {
	r := rand.New(rand.NewSource(273))
	x := ordinary(t)
	for range 60 {
		var flows []*flow
		var rows [][][]byte
		for range 5 {
			flows = append(flows, x.flow())
			rows = append(rows, cut(r, anyRow(r, x)))
		}
		for range 100 {
			i := r.Intn(5)
			if len(rows[i]) == 0 {
				flows[i].resets(t)
				rows[i] = cut(r, anyRow(r, x))
				continue
			}
			flows[i].writes(t, rows[i][0])
			rows[i] = rows[i][1:]
			flows[r.Intn(5)].asks(t)
		}
	}
}

// P26.1: gates over stores of their own, of unlike chips and rings: each tells what its own are.
func TestOwnStores(t *testing.T) {
	x, y := ordinary(t), example(t)
	b := right(1, 5, 7)
	f, g := x.flow(), y.flow()
	f.expects(t, string(b[:6]), api.OK)
	g.expects(t, string(b[:6]), api.ErrForm)
	f.expects(t, string(b[6:]), api.OK)
	g.expects(t, string(b[6:]), api.ErrForm)
	f.ends(t, api.OK)
	g.ends(t, api.ErrForm)
}

// P26.1: no call does an act, or changes what the chip holds, of rows of all kinds.
func TestNoAct(t *testing.T) {
	r := rand.New(rand.NewSource(274))
	x := ordinary(t)
	was, acts := x.chip.State(), x.chip.Acts()
	f := x.flow()
	for range 500 {
		f.takes(t, cut(r, anyRow(r, x))...)
		f.resets(t)
	}
	if x.chip.Acts() != acts || !sameChip(x.chip.State(), was) {
		t.Error("the chip has changed")
	}
}

// P26.1: a cut that waits for an act waits still, whatever is asked.
func TestCutWaits(t *testing.T) {
	r := rand.New(rand.NewSource(275))
	x := ordinary(t)
	x.chip.Cut(0, nil)
	f := x.flow()
	for range 100 {
		f.takes(t, cut(r, anyRow(r, x))...)
		f.resets(t)
	}
	if x.chip.Out() {
		t.Fatal("the power is gone")
	}
	if e := x.store.Revoke(0); e != api.ErrPower {
		t.Errorf("Revoke: %d", e)
	}
}

// P26.1, W3: over a chip that somebody else has laid: a slot's value is what its fuses hold up.
func TestLaidChip(t *testing.T) {
	r := rand.New(rand.NewSource(276))
	g := api.Config{Cells: 8, Slots: 2, Fuses: 3, Step: 10, Keys: 2}
	for range 50 {
		c, _ := chip.New(g)
		s := c.State()
		for p := range s.Pages {
			for i := range s.Pages[p] {
				r.Read(s.Pages[p][i][:])
			}
		}
		s.Blown[3], s.Blown[5] = true, true
		x := benchOf(t, g, 0, 1)
		var e api.Errno
		if x.chip, e = chip.Lay(g, s); e != api.OK {
			t.Fatal(e)
		}
		x.mount(t)
		x.values = []int64{0, 20}
		for _, version := range []int64{0, 19, 20, 39, 40} {
			x.flow().takes(t, cut(r, right(1, 0, version))...)
			x.flow().takes(t, cut(r, right(0, 1, version))...)
		}
	}
}
