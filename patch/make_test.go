package patch_test

import (
	"bytes"
	"math/rand"
	"slices"
	"testing"

	"portcullis/api"
	"portcullis/patch"
)

// P25.1: the chapter's first examples.
func TestMakeExamples(t *testing.T) {
	abc := hashOf([]byte("abc"))
	head := slices.Concat([]byte{0x50, 0x43, 0x50, 0x54, 0x01}, abc[:], abc[:], []byte{3, 0, 0, 0, 3, 0, 0, 0})
	p := makes(t, []byte("abc"), []byte("abc"))
	if !bytes.Equal(p, append(head, 2, 3, 0, 0, 0, 'a', 'b', 'c')) {
		t.Errorf("%x", p)
	}
	x := anyBytes(rand.New(rand.NewSource(1)), 100)
	if p := makes(t, x, x); len(p) != 86 || !bytes.Equal(p[77:], []byte{1, 0, 0, 0, 0, 100, 0, 0, 0}) {
		t.Errorf("%x", p)
	}
	if p := makes(t, nil, nil); len(p) != 77 {
		t.Errorf("%x", p)
	}
}

// P25.1: how many bytes a patch has at most, reckoned by hand: 77, 5 and its bytes a lay, 9 a copy.
func TestMakeLengths(t *testing.T) {
	for _, x := range []struct {
		old, next string
		most      int
	}{
		{"", "", 77},
		{"abc", "", 77},
		{"", "a", 77 + 5 + 1},
		{"a", "a", 77 + 5 + 1},
		{"a", "b", 77 + 5 + 1},
		{"abc", "abc", 77 + 5 + 3},    // a lay is shorter
		{"abcd", "abcd", 77 + 9},      // both have as many bytes
		{"abcde", "abcde", 77 + 9},    // a copy is shorter
		{"abcde", "abcd", 77 + 9},     // next begins old
		{"abcdefgh", "defgh", 77 + 9}, // ends it
		{"abcdefgh", "cdef", 77 + 9},  // is held by it
		{"abcdefghij", "abcdefghijx", 77 + 9 + 5 + 1},
		{"abcdefgh", "abcdefghx", 77 + 5 + 9},
		{"abcdefghi", "abcdefghix", 77 + 9 + 5 + 1},
		{"abcdefghij", "xabcdefghij", 77 + 5 + 1 + 9},
		{"abcdefgh", "xabcdefgh", 77 + 5 + 9},
		{"abcdefghijklmnopqrst", "abcdefghi-klmnopqrst", 77 + 9 + 5 + 1 + 9},
		{"abcdefghijklmnopqr", "abcdefghi-klmnopqr", 77 + 5 + 18},
		{"abcdefghijklmnopqrs", "abcdefghi-klmnopqrs", 77 + 9 + 5 + 1 + 9},
		{"abcdefghijklmnopqrst", "abcdefghijpqrst", 77 + 18}, // both ends, nothing between
		{"abcdefghipqrstuvwx", "abcdefghi" + "12345" + "pqrstuvwx", 77 + 9 + 10 + 9},
		{"aa", "aaaa", 77 + 5 + 4},
		{"aaaa", "aa", 77 + 5 + 2},
		{"abcabcabcabcabcabcabc", "abcabcabcabcabcabcabcabc", 77 + 9 + 5 + 3}, // both ends meet in the shorter one
		{"abcabcabcabcabcabcabcabc", "abcabcabcabcabcabcabc", 77 + 9},
		{"aaaaaaaaaaaaaaaaaaaaaaaa", "aaaaaaaaaaaaaaaaaaaaaaaaa", 77 + 9 + 5 + 1},
		{"aaaaaaaaaaaaaaaaaaaaaaaab", "aaaaaaaaaaaab", 77 + 5 + 13},
		{"aaaaaaaaaaaaaaaaaaaaaaaab", "aaaaaaaaaaaaaaaaaaaaab", 77 + 9 + 9},
	} {
		if n := bound([]byte(x.old), []byte(x.next)); n != x.most {
			t.Errorf("%q to %q: at most %d bytes, not %d", x.old, x.next, x.most, n)
		}
		if p := makes(t, []byte(x.old), []byte(x.next)); len(p) > x.most {
			t.Errorf("%q to %q: %d bytes, at most %d", x.old, x.next, len(p), x.most)
		}
	}
}

// P25.1: rows just as long as may be, and one byte longer, alone and together.
func TestMakeMost(t *testing.T) {
	if testing.Short() {
		t.Skip("rows as long as may be")
	}
	r := rand.New(rand.NewSource(251))
	whole, other := make([]byte, most+1), make([]byte, most+1)
	r.Read(whole)
	r.Read(other)
	rows := [][]byte{nil, {}, {7}, whole[:most-1], whole[:most], whole, other[:most], other, make([]byte, most), make([]byte, most+1)}
	for _, old := range rows {
		for _, next := range rows {
			p := makes(t, old, next)
			if long := len(old) > most || len(next) > most; long != (p == nil) {
				t.Errorf("%d bytes to %d: %d", len(old), len(next), len(p))
			}
			if p != nil {
				if b, f := applies(t, old, p); f.e != api.OK || !bytes.Equal(b, next) {
					t.Errorf("%d bytes to %d: %v", len(old), len(next), f)
				}
			}
		}
	}
	for _, at := range []int{0, 1, most / 2, most - 2, most - 1} {
		next := with(whole[:most], at, whole[at]^1)
		if p := makes(t, whole[:most], next); len(p) > 77+9+6+9 {
			t.Errorf("one byte of %d: %d bytes", most, len(p))
		}
	}
}

// P25.1: nil and a row of no bytes are alike.
func TestMakeNil(t *testing.T) {
	for _, row := range [][]byte{{}, {1}, []byte("abcdefghijkl")} {
		if !bytes.Equal(makes(t, nil, row), makes(t, []byte{}, row)) || !bytes.Equal(makes(t, row, nil), makes(t, row, []byte{})) {
			t.Errorf("%x", row)
		}
	}
}

// P25.1: every pair of short rows of two unlike bytes.
func TestMakeAll(t *testing.T) {
	rows := [][]byte{{}}
	for i := 0; len(rows[i]) < 6; i++ {
		rows = append(rows, append(slices.Clone(rows[i]), 'a'), append(slices.Clone(rows[i]), 'b'))
	}
	if len(rows) != 127 {
		t.Fatal(len(rows))
	}
	for _, old := range rows {
		for _, next := range rows {
			makes(t, old, next)
		}
	}
}

// P25.1: rows of one byte's repetition, and of a beginning and an end that overlap, of all lengths about those at which a copy pays.
func TestMakeRepeated(t *testing.T) {
	for _, unit := range []string{"a", "ab", "abcdefg", "abcdefghijklm"} {
		row := bytes.Repeat([]byte(unit), 40)
		for i := range 40 {
			for j := range 40 {
				makes(t, row[:i], row[:j])
				makes(t, row[:i], append(slices.Clone(row[:j]), '!'))
				makes(t, append(row[:i:i], '!'), row[:j])
				makes(t, slices.Concat(row[:i], []byte("!"), row[:j]), slices.Concat(row[:i], []byte("?"), row[:j]))
				makes(t, slices.Concat(row[:i], row[:j]), slices.Concat(row[:i], []byte("-"), row[:j]))
				makes(t, slices.Concat(row[:i], []byte("12345"), row[:j]), slices.Concat(row[:i], row[:j]))
			}
		}
	}
}

// P25.1: many rows that share pieces.
func TestMakeAny(t *testing.T) {
	r := rand.New(rand.NewSource(252))
	copied := 0
	for range 20000 {
		old := anyBytes(r, r.Intn(anyOf(r, 3, 30, 200)))
		next := akin(r, old)
		if x := read(makes(t, old, next)); len(x.parts) > 1 {
			copied++
		}
		makes(t, next, old)
	}
	if copied < 2000 {
		t.Errorf("%d patches with more than one part", copied)
	}
}

// P25.1, R4: the same two rows give the same patch, whatever was asked between.
func TestMakeAgain(t *testing.T) {
	r := rand.New(rand.NewSource(253))
	var rows [][2][]byte
	var first [][]byte
	for range 500 {
		old := anyBytes(r, r.Intn(60))
		rows = append(rows, [2][]byte{old, akin(r, old)})
		first = append(first, makes(t, old, rows[len(rows)-1][1]))
	}
	for i := range rows {
		j := len(rows) - 1 - i
		if p := makes(t, slices.Clone(rows[j][0]), append(make([]byte, 0, 100), rows[j][1]...)); !bytes.Equal(p, first[j]) {
			t.Fatalf("%x, then %x", first[j], p)
		}
	}
}

// P25.1: ErrBytes is the document's number 4, and comes without a patch.
func TestMakeError(t *testing.T) {
	p, e := patch.Make(make([]byte, most+1), []byte("a"))
	if len(p) != 0 || e != api.ErrBytes || int(e) != 4 {
		t.Errorf("%x, %v", p, e)
	}
}

// FuzzMake holds Make against the second reading, and Apply of what it tells against the rows.
func FuzzMake(f *testing.F) {
	f.Add([]byte("abc"), []byte("abc"))
	f.Add([]byte("abcdefghijklmnopqrst"), []byte("abcdefghij-klmnopqrst"))
	f.Add([]byte{}, []byte{0})
	f.Fuzz(func(t *testing.T, old, next []byte) {
		b, no := applies(t, old, makes(t, old, next))
		if no.e != api.OK || !bytes.Equal(b, next) {
			t.Fatalf("%x to %x: %x, %v", old, next, b, no)
		}
	})
}
