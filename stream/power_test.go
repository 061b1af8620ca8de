package stream_test

import (
	"math/rand"
	"testing"

	"portcullis/api"
	"portcullis/stream"
)

// P26.1: without power Write answers ErrPower, whatever the piece and whatever was written, and writes nothing; Sum answers ErrPower, and Digest its hash. With the power back again all is as it was.
func TestPower(t *testing.T) {
	x := ordinary(t)
	pieces := [][]byte{nil, {}, {'P'}, {'x'}, right(1, 1, 5), right(1, 2, 5), make([]byte, mostBytes+1)}
	for _, c := range endings() {
		f := x.flow()
		f.writes(t, c.b)
		for range 2 {
			x.off(t)
			for _, p := range pieces {
				if e := f.g.Write(p); e != api.ErrPower {
					t.Fatalf("Write(%s): %d", short(p), e)
				}
				f.ends(t, api.ErrPower)
			}
			f.digests(t)
			x.restore()
			f.ends(t, c.sum)
			f.expects(t, "", x.tells(c.b))
		}
		f.expects(t, "x", x.tells(behind(c.b, 'x')))
		f.asks(t)
	}
}

// P26.1, P26.2: the power gone at every place of an image: the bytes that are handed in then are in no later answer.
func TestPowerBetween(t *testing.T) {
	x := ordinary(t)
	b := right(1, 1, 5, 'p', 'q')
	for at := range len(b) + 1 {
		f := x.flow()
		f.expects(t, string(b[:at]), api.OK)
		x.off(t)
		f.expects(t, string(b[at:]), api.ErrPower)
		f.expects(t, "anything", api.ErrPower)
		f.digests(t)
		x.restore()
		f.digests(t)
		f.expects(t, string(b[at:]), api.OK)
		f.ends(t, api.OK)
		f.digests(t)
	}
}

// P26.1: an image of which each piece is refused once for the power, and written then.
func TestPowerEachPiece(t *testing.T) {
	r := rand.New(rand.NewSource(277))
	x := ordinary(t)
	for range 200 {
		f := x.flow()
		for _, p := range cut(r, anyRow(r, x)) {
			x.off(t)
			f.expects(t, string(p), api.ErrPower)
			f.ends(t, api.ErrPower)
			x.restore()
			f.writes(t, p)
			f.asks(t)
		}
	}
}

// P26.1: Reset without power: nothing was written any more.
func TestPowerReset(t *testing.T) {
	x := ordinary(t)
	for _, c := range endings() {
		f := x.flow()
		f.writes(t, c.b)
		x.off(t)
		f.resets(t)
		f.digests(t)
		f.expects(t, "PCUL", api.ErrPower)
		f.ends(t, api.ErrPower)
		f.digests(t)
		x.restore()
		f.ends(t, api.ErrShort)
		f.expects(t, "PCUL", api.OK)
		f.digests(t)
	}
}

// P26.1: a gate that is made without power is one to which nothing was written.
func TestPowerNew(t *testing.T) {
	x := ordinary(t)
	x.off(t)
	f := x.flow()
	f.expects(t, "x", api.ErrPower)
	f.ends(t, api.ErrPower)
	f.digests(t)
	x.restore()
	f.ends(t, api.ErrShort)
	f.expects(t, string(right(1, 1, 5)), api.OK)
	f.ends(t, api.OK)
}

// P26.1: the power goes at an act of the store's, between two pieces: the answers are as what that act has left.
func TestPowerAtAnAct(t *testing.T) {
	b := right(1, 1, 7, 'p')
	for at := range len(b) + 1 {
		for _, mask := range []byte{0x00, 0x0f, 0xff} {
			x := ordinary(t)
			f := x.flow()
			f.expects(t, string(b[:at]), api.OK)
			x.chip.Cut(0, []byte{mask})
			if e := x.store.BumpTo(1, 8); e != api.ErrPower {
				t.Fatal(e)
			}
			x.out = true
			f.expects(t, "x", api.ErrPower)
			f.ends(t, api.ErrPower)
			x.restore()
			if mask == 0xff {
				x.values[1] = 8
			}
			f.expects(t, string(b[at:]), api.OK)
			f.sums(t)

			x.chip.Cut(0, []byte{mask})
			if e := x.store.Revoke(1); e != api.ErrPower {
				t.Fatal(e)
			}
			x.out = true
			f.ends(t, api.ErrPower)
			x.restore()
			want := api.OK
			if mask&1 == 1 {
				x.revoked = append(x.revoked, 1)
				want = api.ErrRevoked
			}
			f.expects(t, "", want)
			f.sums(t)
		}
	}
}

// P26.1: the store mounted anew, and a gate over it: it tells what the one ahead of it would tell.
func TestMountAnew(t *testing.T) {
	r := rand.New(rand.NewSource(278))
	x := ordinary(t)
	for range 100 {
		b := anyRow(r, x)
		old := x.flow()
		old.takes(t, cut(r, b)...)
		write, sum := old.writes(t, nil), old.sums(t)
		x.off(t)
		x.restore()
		x.mount(t)
		anew := &flow{x: x, g: stream.New(x.store, x.ring)}
		anew.takes(t, cut(r, b)...)
		if anew.writes(t, nil) != write || anew.sums(t) != sum {
			t.Fatalf("%s", short(b))
		}
	}
}
