package patch_test

import (
	"bytes"
	"math/rand"
	"slices"
	"testing"

	"portcullis/api"
)

// gives makes sure that Apply tells just that row.
func gives(t testing.TB, old, p []byte, next string) {
	t.Helper()
	if b, f := applies(t, old, p); f.e != api.OK || string(b) != next {
		t.Fatalf("Apply(%q, %x): %q, %v, want %q", old, short(p), short(b), f, next)
	}
}

// stops makes sure that Apply answers just that.
func stops(t testing.TB, old, p []byte, e api.Errno, at int) {
	t.Helper()
	if b, f := applies(t, old, p); f != (fault{e, at}) || len(b) != 0 {
		t.Fatalf("Apply(%q, %x): %x, %v, want %v at %d", short(old), short(p), short(b), f, e, at)
	}
}

// P25.3: the chapter's examples.
func TestApplyExamples(t *testing.T) {
	gives(t, []byte("abc"), between("abc", "bcx", copies(1, 2), lays("x")), "bcx")
	p := makes(t, []byte("abc"), []byte("xyz"))
	gives(t, []byte("abc"), p, "xyz")
	stops(t, []byte("abd"), p, api.ErrState, 5)
	stops(t, []byte("abc"), with(p, 37, p[37]^1), api.ErrChain, 37)
}

// P25.3: right patches, of each kind of part.
func TestApplyRight(t *testing.T) {
	gives(t, nil, between("", ""), "")
	gives(t, []byte{}, between("", ""), "")
	gives(t, []byte("abc"), between("abc", ""), "")
	gives(t, nil, between("", "\x00", lays("\x00")), "\x00")
	gives(t, []byte("abc"), between("abc", "cba", copies(2, 1), copies(1, 1), copies(0, 1)), "cba")
	gives(t, []byte("abc"), between("abc", "abcabcabc", copies(0, 3), copies(0, 3), copies(0, 3)), "abcabcabc")
	gives(t, []byte("abc"), between("abc", "xaybzc", lays("x"), copies(0, 1), lays("y"), copies(1, 1), lays("z"), copies(2, 1)), "xaybzc")
	r := rand.New(rand.NewSource(256))
	for range 5000 {
		old := anyBytes(r, r.Intn(60))
		p, next := anyPatch(r, old)
		gives(t, old, p, string(next))
	}
}

// P25.3: Apply has each of Read's errors, at Read's place, whatever row it is handed.
func TestApplyRead(t *testing.T) {
	p := between("abc", "bcx", copies(1, 2), lays("x"))
	for _, old := range []string{"abc", "abd", "", "abcd"} {
		for n := range p {
			stops(t, []byte(old), p[:n], api.ErrShort, n)
		}
		stops(t, []byte(old), with(p, 3, 'X'), api.ErrForm, 3)
		stops(t, []byte(old), with(p, 71, 255), api.ErrForm, 69)
		stops(t, []byte(old), with(p, 75, 255), api.ErrForm, 73)
		stops(t, []byte(old), with(p, 86, 3), api.ErrForm, 86)
		stops(t, []byte(old), with(p, 78, 2), api.ErrForm, 77)
		stops(t, []byte(old), append(slices.Clone(p), 0), api.ErrRest, 92)
		stops(t, []byte(old), append(with(p, 37, p[37]^1), 0), api.ErrRest, 92)
	}
}

// P25.3: ErrState of rows of another length and of another hash, whatever the new hash says.
func TestApplyState(t *testing.T) {
	p := between("abc", "bcx", copies(1, 2), lays("x"))
	for _, q := range [][]byte{p, with(p, 37, p[37]^1), with(p, 68, p[68]^128)} {
		for _, old := range []string{"", "a", "ab", "abd", "Abc", "aBc", "bcx", "abc\x00", "abcabc"} {
			stops(t, []byte(old), q, api.ErrState, 5)
		}
		stops(t, nil, q, api.ErrState, 5)
		stops(t, make([]byte, most+1), q, api.ErrState, 5)
	}
	for at := 5; at < 37; at++ {
		for bit := range 8 {
			stops(t, []byte("abc"), with(p, at, p[at]^1<<bit), api.ErrState, 5)
		}
	}
	stops(t, []byte("abc"), with(p, 69, 4), api.ErrState, 5) // the right hash, and another length
	stops(t, []byte("abcd"), with(p, 69, 4), api.ErrState, 5)
	empty := between("", "x", lays("x"))
	gives(t, nil, empty, "x")
	stops(t, []byte{0}, empty, api.ErrState, 5)
	stops(t, nil, with(empty, 5, empty[5]^1), api.ErrState, 5)
}

// P25.3: ErrChain, of patches whose parts tell another row than the new hash says.
func TestApplyChain(t *testing.T) {
	p := between("abc", "bcx", copies(1, 2), lays("x"))
	for at := 37; at < 69; at++ {
		for bit := range 8 {
			stops(t, []byte("abc"), with(p, at, p[at]^1<<bit), api.ErrChain, 37)
		}
	}
	for v := range 256 {
		if v != 'x' {
			stops(t, []byte("abc"), with(p, 91, byte(v)), api.ErrChain, 37)
		}
	}
	stops(t, []byte("abc"), with(p, 78, 0), api.ErrChain, 37)
	stops(t, []byte("abc"), between("abc", "bcx", lays("bcX")), api.ErrChain, 37)
	gives(t, []byte("abc"), between("abc", "bcx", lays("bcx")), "bcx")
	nothing := between("abc", "")
	stops(t, []byte("abc"), with(nothing, 40, nothing[40]^1), api.ErrChain, 37)
}

// P25.3: rows and patches as long as may be.
func TestApplyMost(t *testing.T) {
	if testing.Short() {
		t.Skip("rows as long as may be")
	}
	row := make([]byte, most)
	rand.New(rand.NewSource(257)).Read(row)
	back := slices.Clone(row)
	slices.Reverse(back)
	var parts []piece
	for i := range uint32(most) {
		parts = append(parts, copies(most-1-i, 1))
	}
	gives(t, row, between(string(row), string(back), parts...), string(back))
	gives(t, row, between(string(row), string(row), copies(0, most)), string(row))
	gives(t, nil, between("", string(row), lays(string(row))), string(row))
	stops(t, back, between(string(row), string(back), parts...), api.ErrState, 5)
	stops(t, row, between(string(row), string(row), parts...), api.ErrChain, 37)
	stops(t, append(slices.Clone(row), 0), between(string(row), string(row), copies(0, most)), api.ErrState, 5)
	stops(t, row[:most-1], between(string(row), string(row), copies(0, most)), api.ErrState, 5)
}

// P25.3, P25.5: any byte of a patch or a row turned, left out or put in: Apply answers as the chapter says, and what it tells has the hash that the patch tells.
func TestApplyAny(t *testing.T) {
	r := rand.New(rand.NewSource(258))
	seen := map[api.Errno]int{}
	for range 4000 {
		old := anyBytes(r, r.Intn(40))
		p, _ := anyPatch(r, old)
		for range 8 {
			q, row := p, old
			switch r.Intn(5) { // 4: as they were
			case 0, 1:
				q = changed(r, p)
			case 2:
				row = changed(r, old)
			case 3: // at the hashes, or at what is laid or copied
				q = with(p, anyOf(r, 5+r.Intn(64), len(p)-1), byte(r.Intn(256)))
			}
			b, f := applies(t, row, q)
			seen[f.e]++
			if f.e == api.OK && !bytes.Equal(q[37:69], hash(b)) {
				t.Fatalf("Apply(%x, %x): %x", row, q, b)
			}
		}
	}
	for _, e := range []api.Errno{api.OK, api.ErrShort, api.ErrForm, api.ErrRest, api.ErrState, api.ErrChain} {
		if seen[e] < 500 {
			t.Errorf("%v was answered %d times", e, seen[e])
		}
	}
}

func hash(b []byte) []byte {
	h := hashOf(b)
	return h[:]
}
