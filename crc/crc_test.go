package crc_test

import (
	"bytes"
	"hash/crc32"
	"math/rand"
	"slices"
	"sync"
	"testing"

	"portcullis/crc"
)

// steps and plain are the document's words, bit by bit, without a table.
func steps(x uint32, n int) uint32 {
	for range n {
		low := x & 1
		x >>= 1
		if low == 1 {
			x ^= 0xedb88320
		}
	}
	return x
}

func plain(b []byte) uint32 {
	x := uint32(0xffffffff)
	for _, v := range b {
		x = steps(x^uint32(v), 8)
	}
	return ^x
}

func row(r *rand.Rand, n int) []byte {
	b := make([]byte, n)
	r.Read(b)
	return b
}

// P1.1: the examples of the chapter.
func TestOfExamples(t *testing.T) {
	for _, x := range []struct {
		b    []byte
		want uint32
	}{
		{nil, 0},
		{[]byte{}, 0},
		{[]byte("a"), 0xe8b7be43},
		{[]byte("123456789"), 0xcbf43926},
		{[]byte{0}, 0xd202ef8d},
		{[]byte{0xff, 0xff, 0xff, 0xff}, 0xffffffff},
	} {
		if got := crc.Of(x.b); got != x.want {
			t.Errorf("Of(%x): %x, want %x", x.b, got, x.want)
		}
	}
}

// P1.1: every byte by itself, every short length, and a long row.
func TestOfAsTheWordsHaveIt(t *testing.T) {
	r := rand.New(rand.NewSource(1))
	for v := range 256 {
		b := []byte{byte(v)}
		if got, want := crc.Of(b), plain(b); got != want {
			t.Fatalf("Of(%x): %x, want %x", b, got, want)
		}
	}
	for n := range 300 {
		b := row(r, n)
		if got, want := crc.Of(b), plain(b); got != want {
			t.Fatalf("Of(%x): %x, want %x", b, got, want)
		}
	}
	long := row(r, 1<<20)
	if got, want := crc.Of(long), crc32.ChecksumIEEE(long); got != want || got != plain(long) {
		t.Errorf("Of a long row: %x, want %x", got, want)
	}
}

// P1.1: leading and trailing bytes that say nothing (00, ff) count all the same.
func TestLengthCounts(t *testing.T) {
	for _, v := range []byte{0, 0xff} {
		seen := map[uint32]int{}
		for n := range 64 {
			s := crc.Of(bytes.Repeat([]byte{v}, n))
			if other, ok := seen[s]; ok {
				t.Errorf("%d and %d bytes %x: one sum, %x", other, n, v, s)
			}
			seen[s] = n
		}
	}
}

// P1.1: a row in two pieces, cut at each place; the sum asked in between, and twice.
func TestWriteInPieces(t *testing.T) {
	b := []byte("the power may go at any act, leaving any of the bits done")
	for cut := range len(b) + 1 {
		s := crc.New()
		s.Write(b[:cut])
		for range 3 {
			if got, want := s.Sum(), plain(b[:cut]); got != want {
				t.Fatalf("behind %d bytes: %x, want %x", cut, got, want)
			}
		}
		s.Write(b[cut:])
		for range 3 {
			if got, want := s.Sum(), plain(b); got != want {
				t.Fatalf("cut at %d: %x, want %x", cut, got, want)
			}
		}
	}
}

// P1.1: pieces of any lengths, none among them, each followed by a question.
func TestWriteManyPieces(t *testing.T) {
	r := rand.New(rand.NewSource(2))
	for range 200 {
		s := crc.New()
		var all []byte
		for range r.Intn(20) {
			b := row(r, r.Intn(12))
			s.Write(b)
			all = append(all, b...)
			if got, want := s.Sum(), plain(all); got != want {
				t.Fatalf("behind %x: %x, want %x", all, got, want)
			}
		}
	}
}

// P1.1: a new one has no bytes, and writing none leaves it so.
func TestNewHasNone(t *testing.T) {
	s := crc.New()
	if s.Sum() != 0 {
		t.Errorf("new: %x", s.Sum())
	}
	s.Write(nil)
	s.Write([]byte{})
	if s.Sum() != 0 {
		t.Errorf("written none: %x", s.Sum())
	}
}

// P1.1: what is written to one Sum is not seen in another one, nor in Of.
func TestSumsApart(t *testing.T) {
	a, b := crc.New(), crc.New()
	a.Write([]byte("12"))
	b.Write([]byte("abc"))
	a.Write([]byte("34"))
	of := crc.Of([]byte("123456789"))
	if a.Sum() != 0x9be3e0a3 || b.Sum() != plain([]byte("abc")) || of != 0xcbf43926 {
		t.Errorf("a %x, b %x, Of %x", a.Sum(), b.Sum(), of)
	}
	if fresh := crc.New().Sum(); fresh != 0 {
		t.Errorf("a third one: %x", fresh)
	}
}

// P1.2: all 256 places, and those that the chapter names.
func TestTable(t *testing.T) {
	l := crc.Table()
	for i, got := range l {
		if want := steps(uint32(i), 8); got != want {
			t.Errorf("at %d: %x, want %x", i, got, want)
		}
	}
	for i, want := range map[int]uint32{0: 0, 1: 0x77073096, 128: 0xedb88320, 255: 0x2d02ef8d} {
		if l[i] != want {
			t.Errorf("at %d: %x, want %x", i, l[i], want)
		}
	}
}

// P1.2: whoever writes into a table changes neither the next one nor a sum.
func TestTableIsNew(t *testing.T) {
	l := crc.Table()
	clear(l[:])
	if again := crc.Table(); again[1] != 0x77073096 || again[255] != 0x2d02ef8d {
		t.Errorf("the next table: %x, %x", again[1], again[255])
	}
	if got := crc.Of([]byte("123456789")); got != 0xcbf43926 {
		t.Errorf("Of: %x", got)
	}
}

// P1.3: the sum of the exclusive or of three rows, at each short length.
func TestExclusiveOr(t *testing.T) {
	r := rand.New(rand.NewSource(3))
	for n := range 200 {
		a, b, c := row(r, n), row(r, n), row(r, n)
		d := make([]byte, n)
		for i := range d {
			d[i] = a[i] ^ b[i] ^ c[i]
		}
		if got, want := crc.Of(d), crc.Of(a)^crc.Of(b)^crc.Of(c); got != want {
			t.Fatalf("%d bytes: %x, want %x", n, got, want)
		}
	}
}

// turn tells b with the bits of pattern turned from a bit on, the lowest bit of each byte first.
func turn(b []byte, at int, pattern uint64) []byte {
	out := slices.Clone(b)
	for i := range 64 {
		if pattern>>i&1 == 1 {
			out[(at+i)/8] ^= 1 << ((at + i) % 8)
		}
	}
	return out
}

// P1.3: rows that differ within 32 neighbouring bits have unlike sums, wherever these are.
func TestTellsSpoiltBits(t *testing.T) {
	r := rand.New(rand.NewSource(4))
	b := row(r, 24)
	want := crc.Of(b)
	for wide := 1; wide <= 32; wide++ {
		for at := range 8*len(b) - wide + 1 {
			for range 20 {
				pattern := (uint64(r.Uint32()) | 1 | 1<<(wide-1)) & (1<<wide - 1)
				if crc.Of(turn(b, at, pattern)) == want {
					t.Fatalf("turned %x from the bit %d on: the same sum", pattern, at)
				}
			}
		}
	}
}

// P1.3: 33 bits may be too many: the polynomial itself goes unseen, so 32 is the edge.
func TestThirtyThreeBitsMayPass(t *testing.T) {
	b := []byte("portcullis")
	for at := range 8*len(b) - 32 {
		if crc.Of(turn(b, at, 0xedb88320<<1|1)) != crc.Of(b) {
			t.Fatalf("from the bit %d on: unlike sums", at)
		}
	}
}

// P1.4: what is handed in is not changed, spare room included.
func TestArgumentUnchanged(t *testing.T) {
	room := []byte("123456789 and spare room")
	before := slices.Clone(room)
	b := room[:9]
	crc.Of(b)
	s := crc.New()
	s.Write(b)
	s.Sum()
	if !bytes.Equal(room, before) {
		t.Errorf("changed to %q", room)
	}
}

// P1.4: what is handed in is not kept: changing it behind the call changes no sum.
func TestArgumentNotKept(t *testing.T) {
	room := []byte("123456789 and spare room")
	s := crc.New()
	s.Write(room[:4])
	clear(room[:4])
	s.Write(room[4:9])
	clear(room)
	if got := s.Sum(); got != 0xcbf43926 {
		t.Errorf("Sum: %x", got)
	}
}

// R4: the answer hangs on the bytes alone, whoever else is asking at that time.
func TestManyAtOneTime(t *testing.T) {
	var all sync.WaitGroup
	got := make([]uint32, 8)
	for i := range got {
		all.Go(func() {
			s := crc.New()
			for _, v := range []byte("123456789") {
				s.Write([]byte{v})
				crc.Of([]byte{byte(i)})
			}
			got[i] = s.Sum()
		})
	}
	all.Wait()
	for i, x := range got {
		if x != 0xcbf43926 {
			t.Errorf("worker %d: %x", i, x)
		}
	}
}
