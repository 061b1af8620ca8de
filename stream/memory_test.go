package stream_test

import (
	"bytes"
	"math/rand"
	"slices"
	"testing"

	"portcullis/api"
	"portcullis/stream"
)

// roomy is a piece with spare room behind it, in which something lies.
func roomy(r *rand.Rand, b []byte) []byte {
	spare := anyBytes(r, 1+r.Intn(100))
	return slices.Concat(b, spare)[:len(b)]
}

// over writes over a piece, spare room too.
func over(b []byte) {
	all := b[:cap(b)]
	for i := range all {
		all[i] ^= 0x5a
	}
}

// P26.4: pieces stay as they were, spare room too; written over then, they change no later answer.
func TestPieces(t *testing.T) {
	r := rand.New(rand.NewSource(281))
	x := ordinary(t)
	for range 800 {
		f := x.flow()
		for _, p := range cut(r, anyRow(r, x)) {
			p = roomy(r, p)
			was := slices.Clone(p[:cap(p)])
			f.writes(t, p)
			f.asks(t)
			if !bytes.Equal(p[:cap(p)], was) {
				t.Fatalf("%x has become %x", was, p[:cap(p)])
			}
			over(p)
			f.asks(t)
		}
		f.writes(t, nil)
		f.asks(t)
	}
}

// P26.4: a piece that is used for all of a row, over and over, as a reader's buffer is.
func TestOneBuffer(t *testing.T) {
	r := rand.New(rand.NewSource(282))
	x := ordinary(t)
	buffer := make([]byte, 200)
	for range 1000 {
		f := x.flow()
		for _, p := range cut(r, anyRow(r, x)) {
			b := buffer[:copy(buffer, p)]
			f.writes(t, b)
			r.Read(buffer)
		}
		f.asks(t)
	}
}

// P26.4: the pieces of one row, each with the next one in its spare room: what is written to a gate does not reach over a piece's end, nor does the gate write there.
func TestNeighbours(t *testing.T) {
	r := rand.New(rand.NewSource(283))
	x := ordinary(t)
	for range 1000 {
		b := anyRow(r, x)
		was := slices.Clone(b)
		f, other := x.flow(), x.flow()
		for _, p := range cut(r, b) {
			f.writes(t, p)
			other.writes(t, p)
			other.writes(t, []byte{0xee})
		}
		f.resets(t)
		f.writes(t, []byte{0xdd, 0xcc})
		if !bytes.Equal(b, was) {
			t.Fatalf("%x has become %x", was, b)
		}
	}
}

// P26.4: a piece that is written to two gates, and twice to one.
func TestOnePiece(t *testing.T) {
	x := ordinary(t)
	b := right(1, 1, 5, 'p')
	f, g := x.flow(), x.flow()
	f.expects(t, string(b), api.OK)
	if e := g.g.Write(b); e != api.OK {
		t.Fatal(e)
	}
	g.all = slices.Clone(b)
	f.writes(t, b)
	f.ends(t, api.ErrRest)
	g.ends(t, api.OK)
	over(b)
	f.asks(t)
	g.asks(t)
	g.ends(t, api.OK)
}

// P26.4: pieces as long as may be, and longer, stay as they were and may be written over.
func TestLongPieces(t *testing.T) {
	r := rand.New(rand.NewSource(284))
	x := ordinary(t)
	for _, more := range []int{0, 1, 1000} {
		b := roomy(r, behind(greatest(r), make([]byte, more)...))
		was := slices.Clone(b[:cap(b)])
		f := x.flow()
		f.writes(t, b)
		f.asks(t)
		if !bytes.Equal(b[:cap(b)], was) {
			t.Fatal("a piece has changed")
		}
		over(b)
		f.asks(t)
	}
}

// R4: answers don't hang on spare room, nor on what was written ahead of a Reset.
func TestRoomDoesNotCount(t *testing.T) {
	r := rand.New(rand.NewSource(285))
	x := ordinary(t)
	used := stream.New(x.store, x.ring)
	for range 1000 {
		fresh := stream.New(x.store, x.ring)
		used.Reset()
		for _, p := range cut(r, anyRow(r, x)) {
			if a, b := fresh.Write(slices.Clip(p)), used.Write(roomy(r, p)); a != b {
				t.Fatalf("%d, %d", a, b)
			}
		}
		a, b := sum{}, sum{}
		a.slot, a.key, a.version, a.payload, a.e = fresh.Sum()
		b.slot, b.key, b.version, b.payload, b.e = used.Sum()
		if a != b || fresh.Digest() != used.Digest() {
			t.Fatalf("%+v, %+v", a, b)
		}
	}
}
