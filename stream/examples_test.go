package stream_test

import (
	"encoding/hex"
	"testing"

	"portcullis/api"
	"portcullis/gate"
)

// said is a piece that is written, and what Write answers.
type said struct {
	piece string
	want  api.Errno
}

// P26.1: the examples of the chapter, each behind a Reset: pieces, and what Sum tells behind the last one.
func TestExamples(t *testing.T) {
	m := right(0, 0, 4, 'h', 'i')
	var bytewise []said
	for at := range m {
		bytewise = append(bytewise, said{string(m[at : at+1]), api.OK})
	}
	f := example(t).flow()
	for _, c := range []struct {
		pieces []said
		sum    api.Errno
	}{
		{bytewise, api.OK},
		{append(bytewise, said{"\x00", api.ErrRest}), api.ErrRest},
		{[]said{{"PCUL\x01\x00", api.OK}, {"\x01", api.ErrRevoked}, {"x", api.ErrForm}}, api.ErrForm},
		{[]said{{"PX", api.ErrForm}, {"CUL", api.ErrForm}}, api.ErrForm},
		{[]said{{"PCUL\x01\x01", api.ErrForm}}, api.ErrShort},
		{[]said{{"PCUL\x01\x00\x02", api.ErrKey}}, api.ErrShort},
		{nil, api.ErrShort},
	} {
		f.resets(t)
		for _, s := range c.pieces {
			f.expects(t, s.piece, s.want)
		}
		f.ends(t, c.sum)
	}
}

// P26.1, P26.2: what Sum tells of the first example, and Digest of nothing, written out.
func TestExamplesWrittenOut(t *testing.T) {
	x := example(t)
	f := x.flow()
	h := f.g.Digest()
	if got := hex.EncodeToString(h[:]); got != "e3b0c44298fc1c149afbf4c8996fb92427ae41e4649b934ca495991b7852b855" {
		t.Errorf("Digest of nothing: %s", got)
	}
	f.takes(t, each(right(0, 0, 4, 'h', 'i'), 1)...)
	if slot, key, version, n, e := f.g.Sum(); slot != 0 || key != 0 || version != 4 || n != 2 || e != api.OK {
		t.Errorf("Sum: %d, %d, %d, %d, %d", slot, key, version, n, e)
	}
	if _, e := gate.Check(x.store, x.ring, f.all); e != api.OK {
		t.Errorf("Check: %d", e)
	}
	f.resets(t)
	f.expects(t, "abc", api.ErrForm)
	h = f.g.Digest()
	if got := hex.EncodeToString(h[:]); got != "ba7816bf8f01cfea414140de5dae2223b00361a396177a9cb410ff61f20015ad" {
		t.Errorf("Digest of abc: %s", got)
	}
}

// P26.1: the seventh example of the document, in pieces: a counter that is raised, and a key that is revoked.
func TestExampleOfTheWhole(t *testing.T) {
	x := benchOf(t, api.Config{Cells: 8, Slots: 1, Fuses: 2, Step: 3, Keys: 1}, 0)
	two, one := x.flow(), x.flow()
	two.takes(t, each(right(0, 0, 2, []byte("new")...), 7)...)
	one.takes(t, each(right(0, 0, 1, []byte("old")...), 9)...)
	two.ends(t, api.OK)
	one.ends(t, api.OK)
	x.raise(t, 0, 2)
	two.ends(t, api.OK)
	one.ends(t, api.ErrVersion)
	x.revoke(t, 0)
	two.ends(t, api.ErrRevoked)
	one.ends(t, api.ErrRevoked)
	two.expects(t, "", api.ErrRevoked)
}
