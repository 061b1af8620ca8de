package sha_test

import (
	"bytes"
	"crypto/sha256"
	"encoding/hex"
	"math/rand"
	"slices"
	"strings"
	"sync"
	"testing"

	"portcullis/api"
	"portcullis/sha"
)

// want is the library's SHA-256, which the program itself may not lean on.
func want(b []byte) api.Hash { return sha256.Sum256(b) }

func row(r *rand.Rand, n int) []byte {
	b := make([]byte, n)
	r.Read(b)
	return b
}

func same(t *testing.T, what string, got, want api.Hash) {
	t.Helper()
	if got != want {
		t.Fatalf("%s: %x, want %x", what, got, want)
	}
}

func hash(t *testing.T, text string) api.Hash {
	t.Helper()
	b, err := hex.DecodeString(text)
	if err != nil || len(b) != len(api.Hash{}) {
		t.Fatalf("no hash: %q", text)
	}
	return api.Hash(b)
}

// P2.1: the examples of the chapter.
func TestOfExamples(t *testing.T) {
	for _, x := range []struct{ text, want string }{
		{"", "e3b0c44298fc1c149afbf4c8996fb92427ae41e4649b934ca495991b7852b855"},
		{"abc", "ba7816bf8f01cfea414140de5dae2223b00361a396177a9cb410ff61f20015ad"},
		{strings.Repeat("a", 55), "9f4390f8d30c2dd92ec9f095b65e2b9ae9b0a925a5258e241c9f1e910f734318"},
		{strings.Repeat("a", 56), "b35439a4ac6f0948b6d6f9e3c6af0f5f590ce20f1bde7090ef7970686ec6738a"},
		{strings.Repeat("a", 64), "ffe054fe7ae0cb6dc65c3af9b61d5209f439851db43d0ba5997337df154668eb"},
	} {
		same(t, x.text, sha.Of([]byte(x.text)), hash(t, x.want))
	}
	same(t, "nil", sha.Of(nil), sha.Of([]byte{}))
}

// P2.1: the examples of the standard, of two pieces and of many.
func TestOfStandardExamples(t *testing.T) {
	two := "abcdbcdecdefdefgefghfghighijhijkijkljklmklmnlmnomnopnopq"
	same(t, "two pieces", sha.Of([]byte(two)), hash(t, "248d6a61d20638b8e5c026930c3e6039a33ce45964ff2167f6ecedd419db06c1"))
	many := strings.Repeat("a", 1000000)
	same(t, "a million a", sha.Of([]byte(many)), hash(t, "cdc76e5c9914fb9281a1c7e284d73e67f1809a48a497200e046d39ccc7112cd0"))
}

// P2.1: every length over several pieces, the edges 55, 56, 63, 64, 119, 120 and 128 among them, of bytes 00, of ff and of others.
func TestOfEachLength(t *testing.T) {
	r := rand.New(rand.NewSource(1))
	for n := range 400 {
		for _, b := range [][]byte{make([]byte, n), bytes.Repeat([]byte{0xff}, n), bytes.Repeat([]byte{0x80}, n), row(r, n), row(r, n)} {
			same(t, hex.EncodeToString(b), sha.Of(b), want(b))
		}
	}
}

// P2.1: every bit of a row counts.
func TestOfEachBit(t *testing.T) {
	b := row(rand.New(rand.NewSource(2)), 130)
	seen := map[api.Hash]int{sha.Of(b): -1}
	for i := range 8 * len(b) {
		b[i/8] ^= 1 << (i % 8)
		h := sha.Of(b)
		same(t, "a bit turned", h, want(b))
		if other, ok := seen[h]; ok {
			t.Fatalf("bits %d and %d turned: one hash", other, i)
		}
		seen[h] = i
		b[i/8] ^= 1 << (i % 8)
	}
}

// P2.1: from 2^29 bytes on the number of bits takes more than 32 of them.
func TestManyBytes(t *testing.T) {
	t.Parallel()
	megabyte := row(rand.New(rand.NewSource(3)), 1<<20)
	d, other := sha.New(), sha256.New()
	for i := range 513 {
		d.Write(megabyte)
		other.Write(megabyte)
		if i >= 511 {
			same(t, "many bytes", d.Sum(), api.Hash(other.Sum(nil)))
		}
	}
}

// P2.2: a new one has no bytes, and writing none leaves it so.
func TestNewHasNone(t *testing.T) {
	d := sha.New()
	same(t, "new", d.Sum(), want(nil))
	d.Write(nil)
	d.Write([]byte{})
	same(t, "written none", d.Sum(), want(nil))
	same(t, "a copy of one without bytes", d.Copy().Sum(), want(nil))
}

// P2.2: the chapter's example.
func TestDigestExample(t *testing.T) {
	d := sha.New()
	d.Write([]byte("ab"))
	same(t, "ab", d.Sum(), sha.Of([]byte("ab")))
	c := d.Copy()
	d.Write([]byte("c"))
	same(t, "abc", d.Sum(), hash(t, "ba7816bf8f01cfea414140de5dae2223b00361a396177a9cb410ff61f20015ad"))
	same(t, "the copy", c.Sum(), want([]byte("ab")))
}

// P2.2: Sum changes nothing, at each number of bytes: asked again it tells the same, and more may be written behind it.
func TestSumChangesNothing(t *testing.T) {
	b := row(rand.New(rand.NewSource(4)), 200)
	d := sha.New()
	for i := range b {
		for range 3 {
			same(t, "asked again", d.Sum(), want(b[:i]))
		}
		d.Write(b[i : i+1])
	}
	same(t, "all", d.Sum(), want(b))
}

// P2.2: a copy made at each place, and both written to from then on, in turn.
func TestCopyWrittenOnBothSides(t *testing.T) {
	r := rand.New(rand.NewSource(5))
	head := row(r, 140)
	for cut := range len(head) + 1 {
		d := sha.New()
		d.Write(head[:cut])
		c := d.Copy()
		ofD, ofC := slices.Clone(head[:cut]), slices.Clone(head[:cut])
		for range 6 {
			x, y := row(r, r.Intn(70)), row(r, r.Intn(70))
			d.Write(x)
			ofD = append(ofD, x...)
			same(t, "the copy, the first one written to", c.Sum(), want(ofC))
			c.Write(y)
			ofC = append(ofC, y...)
			same(t, "the first one, the copy written to", d.Sum(), want(ofD))
		}
		same(t, "the copy", c.Sum(), want(ofC))
	}
}

// P2.2: a copy of a copy, and one left alone while the others go on.
func TestCopiesOfCopies(t *testing.T) {
	b := row(rand.New(rand.NewSource(6)), 300)
	var all []*sha.Digest
	d := sha.New()
	for i := range b {
		all = append(all, d)
		d = d.Copy()
		d.Write(b[i : i+1])
	}
	for i, x := range all {
		same(t, "left alone", x.Sum(), want(b[:i]))
	}
}

// P2.2: what is written to one of New is seen in no other one, nor in Of.
func TestDigestsApart(t *testing.T) {
	a, b := sha.New(), sha.New()
	a.Write([]byte("portcullis"))
	b.Write(bytes.Repeat([]byte("x"), 100))
	of := sha.Of([]byte("abc"))
	a.Write([]byte("!"))
	same(t, "the first one", a.Sum(), want([]byte("portcullis!")))
	same(t, "the second one", b.Sum(), want(bytes.Repeat([]byte("x"), 100)))
	same(t, "Of", of, want([]byte("abc")))
	same(t, "a third one", sha.New().Sum(), want(nil))
}

// P2.3: a row in three pieces, cut at each two places.
func TestThreePieces(t *testing.T) {
	b := row(rand.New(rand.NewSource(7)), 150)
	whole := sha.Of(b)
	for i := range len(b) + 1 {
		for j := i; j <= len(b); j++ {
			d := sha.New()
			d.Write(b[:i])
			d.Write(b[i:j])
			d.Write(b[j:])
			same(t, "three pieces", d.Sum(), whole)
		}
	}
}

// P2.3: pieces of any lengths, none among them, sums and copies asked between.
func TestManyPieces(t *testing.T) {
	r := rand.New(rand.NewSource(8))
	for range 200 {
		d := sha.New()
		var all []byte
		for range r.Intn(12) {
			b := row(r, r.Intn(200))
			d.Write(b)
			all = append(all, b...)
			switch r.Intn(3) {
			case 0:
				same(t, "between", d.Sum(), want(all))
			case 1:
				d.Copy().Write(row(r, r.Intn(100)))
			}
		}
		same(t, "at the end", d.Sum(), sha.Of(all))
	}
}

// P2.4: what was handed to Write is written over behind it, at each number of bytes that don't make a piece.
func TestArgumentNotKept(t *testing.T) {
	b := row(rand.New(rand.NewSource(9)), 200)
	room := make([]byte, 200)
	for cut := range len(b) + 1 {
		d := sha.New()
		copy(room, b)
		d.Write(room[:cut])
		c := d.Copy()
		clear(room)
		same(t, "written over", d.Sum(), want(b[:cut]))
		copy(room, b[cut:])
		d.Write(room[:len(b)-cut])
		clear(room)
		same(t, "written over twice", d.Sum(), want(b))
		same(t, "the copy", c.Sum(), want(b[:cut]))
	}
}

// P2.4: what is handed in is not changed, spare room included.
func TestArgumentUnchanged(t *testing.T) {
	r := rand.New(rand.NewSource(10))
	for n := range 140 {
		room := row(r, 300)
		before := slices.Clone(room)
		b := room[:n]
		sha.Of(b)
		d := sha.New()
		d.Write(b)
		d.Sum()
		d.Copy().Write(b)
		if !bytes.Equal(room, before) {
			t.Fatalf("%d bytes: changed", n)
		}
	}
}

// R4: the answer hangs on the bytes alone, whoever else is asking at that time; one Digest may be asked by many.
func TestManyAtOneTime(t *testing.T) {
	b := row(rand.New(rand.NewSource(11)), 1000)
	shared := sha.New()
	shared.Write(b[:70])
	var all sync.WaitGroup
	got := make([][3]api.Hash, 8)
	for i := range got {
		all.Go(func() {
			d := sha.New()
			for _, v := range b {
				d.Write([]byte{v})
			}
			c := shared.Copy()
			c.Write(b[70:])
			got[i] = [3]api.Hash{d.Sum(), c.Sum(), shared.Sum()}
		})
	}
	all.Wait()
	for _, x := range got {
		if x != [3]api.Hash{want(b), want(b), want(b[:70])} {
			t.Errorf("%x", x)
		}
	}
}
