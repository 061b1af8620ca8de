package mac_test

import (
	"bytes"
	"crypto/hmac"
	"crypto/sha256"
	"encoding/hex"
	"math/rand"
	"slices"
	"strings"
	"sync"
	"testing"
	"time"

	"portcullis/api"
	"portcullis/mac"
	"portcullis/sha"
)

// want is the library's HMAC-SHA-256, which the program itself may not lean on.
func want(key, b []byte) api.Hash {
	h := hmac.New(sha256.New, key)
	h.Write(b)
	return api.Hash(h.Sum(nil))
}

func row(r *rand.Rand, n int) []byte {
	b := make([]byte, n)
	r.Read(b)
	return b
}

func same(t *testing.T, what string, got, want api.Hash) {
	t.Helper()
	if got != want {
		t.Fatalf("%q: %x, want %x", what, got, want)
	}
}

func hash(t *testing.T, text string) api.Hash {
	t.Helper()
	b, err := hex.DecodeString(text)
	if err != nil || len(b) != len(api.Hash{}) {
		t.Fatalf("no hash: %q", text)
	}
	return api.Hash(b)
}

// P3.1: the examples of the chapter, and those of RFC 4231 that it leaves out.
func TestOfExamples(t *testing.T) {
	rising := make([]byte, 25)
	for i := range rising {
		rising[i] = byte(i + 1)
	}
	long := bytes.Repeat([]byte{0xaa}, 131)
	for _, x := range []struct {
		key  []byte
		b    string
		want string
	}{
		{bytes.Repeat([]byte{0x0b}, 20), "Hi There", "b0344c61d8db38535ca8afceaf0bf12b881dc200c9833da726e9376c2e32cff7"},
		{[]byte("Jefe"), "what do ya want for nothing?", "5bdcc146bf60754e6a042426089575c75a003f089d2739839dec58b964ec3843"},
		{bytes.Repeat([]byte{0xaa}, 20), strings.Repeat("\xdd", 50), "773ea91e36800e46854db8ebd09181a72959098b3ef8c122d9635514ced565fe"},
		{rising, strings.Repeat("\xcd", 50), "82558a389a443c0ea4cc819899f2083a85f0faa3e578f8077a2e3ff46729665b"},
		{long, "Test Using Larger Than Block-Size Key - Hash Key First", "60e431591ee0b67f0d8a26aacbf5b77f8e0bc6213728c5140546040f0ee37f54"},
		{long, "This is a test using a larger than block-size key and a larger than block-size data. The key needs to be hashed before being used by the HMAC algorithm.", "9b09ffa71b942fcb27635fbcd5b0e944bfdc63644f0713938a7f51535c3a35e2"},
		{nil, "", "b613679a0814d9ec772f95d778c35fc5ff1697c493715653c6c712144292c5ad"},
	} {
		same(t, x.b, mac.Of(x.key, []byte(x.b)), hash(t, x.want))
	}
	same(t, "empty and nil", mac.Of([]byte{}, []byte{}), mac.Of(nil, nil))
}

// P3.1: keys of each length over two pieces, none, 64 and 65 bytes among them, under rows of each kind of length.
func TestOfEachKeyLength(t *testing.T) {
	r := rand.New(rand.NewSource(1))
	for n := range 200 {
		for _, m := range []int{0, 1, 31, 32, 55, 56, 63, 64, 65, 119, 120, 128, 300} {
			for _, key := range [][]byte{make([]byte, n), bytes.Repeat([]byte{0xff}, n), bytes.Repeat([]byte{0x36}, n), bytes.Repeat([]byte{0x5c}, n), row(r, n)} {
				b := row(r, m)
				same(t, hex.EncodeToString(key), mac.Of(key, b), want(key, b))
			}
		}
	}
}

// P3.1: every bit of a key and of a row counts, in short keys, in those of 64 bytes and in longer ones.
func TestOfEachBit(t *testing.T) {
	r := rand.New(rand.NewSource(2))
	for _, n := range []int{1, 63, 64, 65, 130} {
		key, b := row(r, n), row(r, 70)
		seen := map[api.Hash]bool{mac.Of(key, b): true}
		for _, turned := range [][]byte{key, b} {
			for i := range 8 * len(turned) {
				turned[i/8] ^= 1 << (i % 8)
				h := mac.Of(key, b)
				same(t, "a bit turned", h, want(key, b))
				if seen[h] {
					t.Fatalf("a key of %d bytes, bit %d turned: a tag seen before", n, i)
				}
				seen[h] = true
				turned[i/8] ^= 1 << (i % 8)
			}
		}
	}
}

// P3.1: a new one has no bytes, and writing none leaves it so.
func TestNewHasNone(t *testing.T) {
	r := rand.New(rand.NewSource(3))
	for _, n := range []int{0, 1, 64, 65} {
		key := row(r, n)
		m := mac.New(key)
		same(t, "new", m.Sum(), want(key, nil))
		m.Write(nil)
		m.Write([]byte{})
		same(t, "written none", m.Sum(), want(key, nil))
	}
}

// P3.1: Sum changes nothing, at each number of bytes: asked again it tells the same, and more may be written behind it.
func TestSumChangesNothing(t *testing.T) {
	r := rand.New(rand.NewSource(4))
	for _, n := range []int{0, 20, 64, 65, 200} {
		key, b := row(r, n), row(r, 200)
		m := mac.New(key)
		for i := range b {
			for range 3 {
				same(t, "asked again", m.Sum(), want(key, b[:i]))
			}
			m.Write(b[i : i+1])
		}
		same(t, "all", m.Sum(), want(key, b))
	}
}

// P3.1: two Macs, of one key and of two, written to and asked in turn, have nothing in common.
func TestMacsApart(t *testing.T) {
	r := rand.New(rand.NewSource(5))
	for _, keys := range [][2][]byte{{[]byte("one"), []byte("one")}, {[]byte("one"), []byte("two")}, {row(r, 64), row(r, 65)}, {nil, row(r, 100)}} {
		a, b := mac.New(keys[0]), mac.New(keys[1])
		var ofA, ofB []byte
		for range 40 {
			x, y := row(r, r.Intn(70)), row(r, r.Intn(70))
			a.Write(x)
			ofA = append(ofA, x...)
			same(t, "the second one, the first one written to", b.Sum(), want(keys[1], ofB))
			b.Write(y)
			ofB = append(ofB, y...)
			same(t, "the first one, the second one written to", a.Sum(), want(keys[0], ofA))
		}
		same(t, "a third one", mac.New(keys[0]).Sum(), want(keys[0], nil))
	}
}

// P3.2: the examples of the chapter.
func TestEqualExamples(t *testing.T) {
	for _, x := range []struct {
		a, b string
		want bool
	}{
		{"ab", "ab", true}, {"", "", true}, {"ab", "ac", false}, {"ab", "a", false},
	} {
		if mac.Equal([]byte(x.a), []byte(x.b)) != x.want {
			t.Errorf("Equal(%q, %q): %v", x.a, x.b, !x.want)
		}
	}
	if !mac.Equal(nil, []byte{}) || !mac.Equal([]byte{}, nil) || !mac.Equal(nil, nil) {
		t.Error("rows without bytes are the same, nil or not")
	}
}

// P3.2: rows that differ in one bit at each place, or in one byte, are not the same, either way round.
func TestEqualOneByte(t *testing.T) {
	r := rand.New(rand.NewSource(6))
	for _, n := range []int{1, 2, 31, 32, 33, 64, 300} {
		a := row(r, n)
		b := slices.Clone(a)
		if !mac.Equal(a, b) || !mac.Equal(a, a) {
			t.Fatalf("%d bytes: the same ones", n)
		}
		for i := range b {
			for _, turn := range []byte{1, 2, 4, 8, 16, 32, 64, 128, 255} {
				b[i] ^= turn
				if mac.Equal(a, b) || mac.Equal(b, a) {
					t.Fatalf("%d bytes: byte %d turned by %02x", n, i, turn)
				}
				b[i] ^= turn
			}
		}
	}
}

// P3.2: differences that would weigh each other out if they were added or laid over one another.
func TestEqualManyBytes(t *testing.T) {
	for _, x := range [][2]string{{"ab", "ba"}, {"\x01\x00", "\x00\x01"}, {"\x01\x01", "\x00\x00"}, {"\x80\x80", "\x00\x00"}, {"\x01\xff", "\x00\x00"}, {"\xff\xff\xff", "\x00\x00\x00"}} {
		if mac.Equal([]byte(x[0]), []byte(x[1])) {
			t.Errorf("Equal(%q, %q): true", x[0], x[1])
		}
	}
}

// P3.2: rows that differ in their number of bytes alone, the bytes behind being 00, ff or what stands ahead of them; by 256 too, which is 0 in a byte.
func TestEqualNumberAlone(t *testing.T) {
	for _, v := range []byte{0, 1, 0xff} {
		for n := range 40 {
			for _, more := range []int{1, 2, 255, 256, 512, 65536} {
				a, b := bytes.Repeat([]byte{v}, n), bytes.Repeat([]byte{v}, n+more)
				if mac.Equal(a, b) || mac.Equal(b, a) {
					t.Fatalf("%d bytes %02x and %d more: true", n, v, more)
				}
			}
		}
	}
}

// P3.2: spare room behind a row is none of its bytes.
func TestEqualSpareRoom(t *testing.T) {
	a, b := []byte("same, then not"), []byte("same; then not")
	if !mac.Equal(a[:4], b[:4]) || mac.Equal(a[:5], b[:5]) || mac.Equal(a[:4], a[:5]) {
		t.Error("spare room")
	}
}

// P3.2: it looks at all bytes: rows that part at once take no small part of the time that rows which don't take.
func TestEqualLooksAtAll(t *testing.T) {
	a := make([]byte, 1<<22)
	b := slices.Clone(a)
	whole := fastest(a, b)
	b[0] = 1
	for what, took := range map[string]time.Duration{
		"the first byte":                  fastest(a, b),
		"the number":                      fastest(a, a[1:]),
		"the number, the other way round": fastest(a[1:], a),
		"all bytes, one having none":      fastest(nil, a),
	} {
		if took < whole/20 {
			t.Errorf("rows that differ in %s: %v, the same rows: %v", what, took, whole)
		}
	}
}

func fastest(a, b []byte) time.Duration {
	least := time.Hour
	for range 7 {
		start := time.Now()
		mac.Equal(a, b)
		least = min(least, time.Since(start))
	}
	return least
}

// P3.3: the chapter's example, and labels and keys of each kind: none, with bytes 00, of no text, long ones.
func TestDerive(t *testing.T) {
	same(t, "quote", mac.Derive([]byte("Jefe"), "quote"), mac.Of([]byte("Jefe"), []byte("quote\x00\x01\x00\x00\x00")))
	r := rand.New(rand.NewSource(7))
	for _, n := range []int{0, 1, 32, 64, 65, 131} {
		key := row(r, n)
		for _, label := range []string{"", "q", "quote", "\x00", "quote\x00", "quote\x00\x01\x00\x00\x00", "\xff\xfe", "Schlüssel", strings.Repeat("x", 1000), string(row(r, 51))} {
			same(t, label, mac.Derive(key, label), want(key, []byte(label+"\x00\x01\x00\x00\x00")))
		}
	}
}

// P3.3: another label or another key tells another key, and none of them is the label's tag.
func TestDeriveApart(t *testing.T) {
	seen := map[api.Hash]bool{}
	for _, key := range []string{"", "k", "l", strings.Repeat("k", 64), strings.Repeat("k", 65)} {
		for _, label := range []string{"", "a", "b", "ab", "a\x00", "\x00a", "A"} {
			for _, h := range []api.Hash{mac.Derive([]byte(key), label), mac.Of([]byte(key), []byte(label))} {
				if seen[h] {
					t.Fatalf("key %q, label %q: seen before", key, label)
				}
				seen[h] = true
			}
		}
	}
}

// P3.4: a row in three pieces, cut at each two places, Sum asked between them or not.
func TestThreePieces(t *testing.T) {
	r := rand.New(rand.NewSource(8))
	key, b := row(r, 40), row(r, 140)
	whole := mac.Of(key, b)
	for i := range len(b) + 1 {
		for j := i; j <= len(b); j++ {
			quiet, asked := mac.New(key), mac.New(key)
			for _, piece := range [][]byte{b[:i], b[i:j], b[j:]} {
				quiet.Write(piece)
				asked.Write(piece)
				asked.Sum()
			}
			same(t, "three pieces", quiet.Sum(), whole)
			same(t, "three pieces, asked between", asked.Sum(), whole)
		}
	}
}

// P3.4: pieces of any lengths, none among them, under keys of any length.
func TestManyPieces(t *testing.T) {
	r := rand.New(rand.NewSource(9))
	for range 300 {
		key := row(r, r.Intn(150))
		m := mac.New(key)
		var all []byte
		for range r.Intn(12) {
			b := row(r, r.Intn(200))
			m.Write(b)
			all = append(all, b...)
			if r.Intn(2) == 0 {
				same(t, "between", m.Sum(), want(key, all))
			}
		}
		same(t, "at the end", m.Sum(), mac.Of(key, all))
	}
}

// P3.4: bytes 00 behind a key, up to 64, change nothing; from 65 on they do, and so does any other byte.
func TestZerosBehindKey(t *testing.T) {
	r := rand.New(rand.NewSource(10))
	b := row(r, 90)
	for n := range 65 {
		key := row(r, n)
		padded := slices.Concat(key, make([]byte, 70-n))
		for m := n; m <= 64; m++ {
			same(t, "Of", mac.Of(padded[:m], b), mac.Of(key, b))
		}
		same(t, "Derive", mac.Derive(padded[:64], "label"), mac.Derive(key, "label"))
		m := mac.New(padded[:64])
		m.Write(b)
		same(t, "New", m.Sum(), mac.Of(key, b))
		if mac.Of(padded[:65], b) == mac.Of(key, b) {
			t.Fatalf("a key of %d bytes and %d bytes 00: the same tag", n, 65-n)
		}
		if n < 64 && mac.Of(slices.Concat(key, []byte{1}), b) == mac.Of(key, b) {
			t.Fatalf("a key of %d bytes and a byte 01: the same tag", n)
		}
	}
}

// P3.4: a key of more than 64 bytes tells the tags of its SHA-256; one of 64 or fewer does not.
func TestLongKey(t *testing.T) {
	r := rand.New(rand.NewSource(11))
	for n := range 260 {
		key, b := row(r, n), row(r, 50)
		h := sha.Of(key)
		m := mac.New(key)
		m.Write(b)
		same(t, "New and Of", m.Sum(), mac.Of(key, b))
		if alike := mac.Of(key, b) == mac.Of(h[:], b); alike != (n > 64) {
			t.Fatalf("a key of %d bytes: the tag of its hash: %v", n, alike)
		}
		if alike := mac.Derive(key, "label") == mac.Derive(h[:], "label"); alike != (n > 64) {
			t.Fatalf("a key of %d bytes: the key of its hash: %v", n, alike)
		}
	}
}

// P3.5: keys and bytes are written over behind the call that they were handed to.
func TestArgumentsNotKept(t *testing.T) {
	r := rand.New(rand.NewSource(12))
	for _, n := range []int{1, 20, 63, 64, 65, 130} {
		key, b := row(r, n), row(r, 150)
		for cut := range len(b) + 1 {
			ofKey, room := slices.Clone(key), slices.Clone(b)
			m := mac.New(ofKey)
			clear(ofKey)
			same(t, "the key written over", m.Sum(), want(key, nil))
			m.Write(room[:cut])
			clear(room)
			same(t, "bytes written over", m.Sum(), want(key, b[:cut]))
			copy(room, b[cut:])
			m.Write(room[:len(b)-cut])
			clear(room)
			same(t, "bytes written over twice", m.Sum(), want(key, b))
		}
	}
}

// P3.5: what is handed in is not changed, spare room included.
func TestArgumentsUnchanged(t *testing.T) {
	r := rand.New(rand.NewSource(13))
	for n := range 140 {
		keys, rows := row(r, 300), row(r, 300)
		keysBefore, rowsBefore := slices.Clone(keys), slices.Clone(rows)
		key, b := keys[:n], rows[:n]
		mac.Of(key, b)
		m := mac.New(key)
		m.Write(b)
		m.Sum()
		mac.Equal(key, b)
		mac.Equal(b, key[:n/2])
		mac.Derive(key, "label")
		if !bytes.Equal(keys, keysBefore) || !bytes.Equal(rows, rowsBefore) {
			t.Fatalf("%d bytes: changed", n)
		}
	}
}

// P3.5: one row may be key and bytes, and both rows of Equal.
func TestOneRowTwice(t *testing.T) {
	b := row(rand.New(rand.NewSource(14)), 100)
	same(t, "key and bytes", mac.Of(b, b), want(b, b))
	if !mac.Equal(b, b) || mac.Equal(b, b[:99]) || mac.Equal(b[1:], b[:99]) {
		t.Error("Equal of pieces of one row")
	}
}

// R4: an answer hangs on the arguments alone, whoever else is asking at that time; one Mac may be asked by many.
func TestManyAtOneTime(t *testing.T) {
	r := rand.New(rand.NewSource(15))
	key, b := row(r, 70), row(r, 1000)
	shared := mac.New(key)
	shared.Write(b[:70])
	var all sync.WaitGroup
	got := make([][3]api.Hash, 8)
	for i := range got {
		all.Go(func() {
			m := mac.New(key)
			for _, v := range b {
				m.Write([]byte{v})
			}
			got[i] = [3]api.Hash{m.Sum(), shared.Sum(), mac.Derive(key, "label")}
		})
	}
	all.Wait()
	for _, x := range got {
		if x != [3]api.Hash{want(key, b), want(key, b[:70]), want(key, []byte("label\x00\x01\x00\x00\x00"))} {
			t.Errorf("%x", x)
		}
	}
}
