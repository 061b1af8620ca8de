package stream_test

import (
	"crypto/sha256"
	"math/rand"
	"runtime"
	"testing"

	"portcullis/api"
	"portcullis/stream"
)

// greatest is an image of as many bytes as may be, which the ordinary bench's gate takes.
func greatest(r *rand.Rand) []byte {
	return right(0, 0, 1, anyBytes(r, mostPayload)...)
}

// P26.1, P26.2: just as many bytes as an image may have, one more, and far more, in one piece.
func TestGreatest(t *testing.T) {
	r := rand.New(rand.NewSource(266))
	f := ordinary(t).flow()
	b := greatest(r)
	if len(b) != mostBytes {
		t.Fatalf("%d bytes", len(b))
	}
	for _, c := range []struct {
		b          []byte
		write, sum api.Errno
	}{
		{b, api.OK, api.OK},
		{b[:mostBytes-1], api.OK, api.ErrShort},
		{behind(b, 0), api.ErrBytes, api.ErrBytes},
		{behind(b, b...), api.ErrBytes, api.ErrBytes},
		{make([]byte, 20*mostBytes), api.ErrBytes, api.ErrBytes},
		{make([]byte, mostBytes), api.ErrForm, api.ErrForm},
		{make([]byte, mostBytes+1), api.ErrBytes, api.ErrBytes},
		{behind(right(0, 0, 1), make([]byte, mostBytes-bareBytes)...), api.ErrRest, api.ErrRest},
		{behind(right(0, 0, 1), make([]byte, mostBytes-bareBytes+1)...), api.ErrBytes, api.ErrBytes},
		{with(b, mostBytes-1, b[mostBytes-1]^1), api.OK, api.ErrTag},
		{with(b, 6, 2), api.ErrRevoked, api.ErrRevoked},
		{with(b, 6, 3), api.ErrKey, api.ErrKey},
		{with(b, 5, 3), api.ErrForm, api.ErrForm},
	} {
		f.resets(t)
		if write, sum := f.takes(t, c.b); write != c.write || sum != c.sum {
			t.Errorf("%s: %d, %d, want %d, %d", short(c.b), write, sum, c.write, c.sum)
		}
	}
}

// P26.1, P26.2: the greatest image in many pieces, whatever their lengths, and what comes behind it, byte by byte: OK up to its end, then ErrBytes for ever.
func TestGreatestInPieces(t *testing.T) {
	r := rand.New(rand.NewSource(267))
	f := ordinary(t).flow()
	b := greatest(r)
	for _, n := range []int{100, 4096, 65536, 100000, mostBytes / 2, mostBytes - 1} {
		f.resets(t)
		for _, p := range each(b[:mostBytes-2], n) {
			if e := f.writes(t, p); e != api.OK {
				t.Fatalf("%d behind %d bytes", e, len(f.all))
			}
		}
		for _, v := range b[mostBytes-2:] {
			f.ends(t, api.ErrShort)
			f.expects(t, string([]byte{v}), api.OK)
		}
		f.ends(t, api.OK)
		f.digests(t)
		for range 3 {
			f.expects(t, "x", api.ErrBytes)
			f.expects(t, "", api.ErrBytes)
		}
		f.expects(t, string(b), api.ErrBytes)
		f.ends(t, api.ErrBytes)
		f.digests(t)
	}
}

// P26.1, P26.2: one piece that begins ahead of the last byte that may be and ends far behind it.
func TestOverTheEdge(t *testing.T) {
	r := rand.New(rand.NewSource(268))
	f := ordinary(t).flow()
	b := greatest(r)
	for _, at := range []int{1, mostBytes / 2, mostBytes - 1, mostBytes} {
		for _, more := range []int{1, 2, 1000, mostBytes} {
			f.resets(t)
			f.expects(t, string(b[:at]), api.OK)
			f.expects(t, string(behind(b[at:], anyBytes(r, more)...)), api.ErrBytes)
			f.ends(t, api.ErrBytes)
			f.digests(t)
			f.expects(t, "", api.ErrBytes)
		}
	}
}

// P26.1, P26.3: what Parse refuses, or what stands at the places 5 and 6, is told until there are too many bytes, which is told from then on.
func TestWrongThenTooMany(t *testing.T) {
	f := ordinary(t).flow()
	for _, c := range []struct {
		b    []byte
		want api.Errno
	}{{[]byte("PX"), api.ErrForm}, {behind(right(0, 0, 1), 0), api.ErrRest}, {with(right(0, 0, 1), 15, 1), api.ErrForm}} {
		f.resets(t)
		f.expects(t, string(c.b), c.want)
		for len(f.all) < mostBytes {
			f.expects(t, string(make([]byte, min(70000, mostBytes-len(f.all)))), c.want)
			f.ends(t, c.want)
		}
		f.expects(t, "x", api.ErrBytes)
		f.ends(t, api.ErrBytes)
	}
}

// P26.1, P26.2: the greatest image byte by byte, and more behind it.
func TestGreatestByteByByte(t *testing.T) {
	if testing.Short() {
		t.Skip("half a million Writes")
	}
	f := ordinary(t).flow()
	b := greatest(rand.New(rand.NewSource(269)))
	for at := range b {
		if e := f.g.Write(b[at : at+1]); e != api.OK {
			t.Fatalf("%d at %d", e, at)
		}
	}
	f.all = b
	f.ends(t, api.OK)
	f.digests(t)
	f.expects(t, "x", api.ErrBytes)
	f.ends(t, api.ErrBytes)
	f.digests(t)
}

// heap is how many bytes are in use.
func heap() int64 {
	runtime.GC()
	var m runtime.MemStats
	runtime.ReadMemStats(&m)
	return int64(m.HeapAlloc)
}

// P26.2: Digest tells the hash of very much, of which no more is kept than may be asked for.
func TestVeryMuch(t *testing.T) {
	if testing.Short() {
		t.Skip("64 MiB")
	}
	x := ordinary(t)
	g := stream.New(x.store, x.ring)
	b := anyBytes(rand.New(rand.NewSource(270)), 1<<20)
	h := sha256.New()
	was := heap()
	for i := range 64 {
		h.Write(b)
		if e := g.Write(b); e != api.ErrBytes {
			t.Fatalf("%d behind %d pieces", e, i+1)
		}
	}
	if more := heap() - was; more > 8<<20 {
		t.Errorf("%d bytes are kept", more)
	}
	if g.Digest() != api.Hash(h.Sum(nil)) {
		t.Error("Digest")
	}
	if _, _, _, _, e := g.Sum(); e != api.ErrBytes {
		t.Errorf("Sum: %d", e)
	}
}
