package patch_test

import (
	"bytes"
	"crypto/sha256"
	"encoding/binary"
	"errors"
	"math/rand"
	"slices"
	"sort"
	"testing"

	"portcullis/api"
	"portcullis/patch"
)

// The limit of the document, written out.
const most = 524288

// What follows is a second reading of the chapter, which leans on nothing of the program.

// piece is a part: n bytes of the old row, or bytes that are laid.
type piece struct {
	lays    bool
	from, n uint32
	bytes   []byte
}

func copies(from, n uint32) piece { return piece{from: from, n: n} }

func lays(s string) piece { return piece{lays: true, n: uint32(len(s)), bytes: []byte(s)} }

// written is a part's bytes.
func (x piece) written() []byte {
	if x.lays {
		return append(binary.LittleEndian.AppendUint32([]byte{2}, x.n), x.bytes...)
	}
	return binary.LittleEndian.AppendUint32(binary.LittleEndian.AppendUint32([]byte{1}, x.from), x.n)
}

// words are a patch's, whether they may be or not.
type words struct {
	old, next     api.Hash
	before, after uint32
	parts         []piece
}

func (x words) written() []byte {
	p := slices.Concat([]byte{0x50, 0x43, 0x50, 0x54, 0x01}, x.old[:], x.next[:])
	p = binary.LittleEndian.AppendUint32(p, x.before)
	p = binary.LittleEndian.AppendUint32(p, x.after)
	for _, c := range x.parts {
		p = append(p, c.written()...)
	}
	return p
}

// between is the patch of an old row to a new one, by those parts, whether they tell it or not.
func between(old, next string, parts ...piece) []byte {
	return words{hashOf([]byte(old)), hashOf([]byte(next)), uint32(len(old)), uint32(len(next)), parts}.written()
}

// sized is a patch of rows of so many bytes.
func sized(before, after uint32, parts ...piece) []byte {
	return words{api.Hash{1, 2}, api.Hash{3, 4}, before, after, parts}.written()
}

// hashOf is the library's SHA-256, which the program itself may not lean on.
func hashOf(b []byte) api.Hash { return sha256.Sum256(b) }

// tells is what parts tell of a row, whatever that is made of.
func tells[T any](parts []piece, row []T, own func(byte) T) []T {
	out := []T{}
	for _, x := range parts {
		if !x.lays {
			for i := range x.n {
				out = append(out, row[x.from+i])
			}
		}
		for _, v := range x.bytes {
			out = append(out, own(v))
		}
	}
	return out
}

func told(parts []piece, row []byte) []byte {
	return tells(parts, row, func(v byte) byte { return v })
}

// traced is what parts tell of a row each place of which has a number of its own: what is told of that is told of every row.
func traced(parts []piece, row []int) []int {
	return tells(parts, row, func(v byte) int { return int(v) })
}

func numbered(n uint32) []int {
	row := make([]int, n)
	for i := range row {
		row[i] = 256 + i
	}
	return row
}

// reading is what Read must answer, with the parts; or an error's number and its place.
type reading struct {
	words
	e  api.Errno
	at int
}

// fault is where the second reading gives up.
type fault struct {
	e  api.Errno
	at int
}

func must(is bool, at int) {
	if !is {
		panic(fault{api.ErrForm, at})
	}
}

// bytewise goes through a patch byte by byte.
type bytewise struct {
	p  []byte
	at int
}

func (r *bytewise) one() byte {
	if r.at == len(r.p) {
		panic(fault{api.ErrShort, len(r.p)})
	}
	r.at++
	return r.p[r.at-1]
}

func (r *bytewise) four() uint64 {
	return uint64(r.one()) + uint64(r.one())*256 + uint64(r.one())*65536 + uint64(r.one())*16777216
}

// read is what Read must answer.
func read(p []byte) (x reading) {
	defer func() {
		switch f := recover().(type) {
		case nil:
		case fault:
			x = reading{e: f.e, at: f.at}
		default:
			panic(f)
		}
	}()
	r := &bytewise{p: p}
	for i, v := range []byte("PCPT\x01") {
		must(r.one() == v, i)
	}
	for i := range x.old {
		x.old[i] = r.one()
	}
	for i := range x.next {
		x.next[i] = r.one()
	}
	before := r.four()
	must(before <= most, 69)
	after := r.four()
	must(after <= most, 73)
	x.before, x.after = uint32(before), uint32(after)
	for come := uint64(0); come < after; {
		ahead := slices.Clone(x.parts[max(0, len(x.parts)-1):])
		c := r.part(before, after-come, ahead)
		x.parts = append(x.parts, c)
		come += uint64(c.n)
	}
	if r.at != len(p) {
		panic(fault{api.ErrRest, r.at})
	}
	return x
}

// part is the next part, behind none or one.
func (r *bytewise) part(before, left uint64, ahead []piece) piece {
	first := r.at
	kind := r.one()
	must(kind == 1 || kind == 2, first)
	if kind == 1 {
		from, n := r.four(), r.four()
		must(n != 0 && n <= left && from+n <= before, first)
		for _, a := range ahead {
			must(a.lays || uint64(a.from)+uint64(a.n) != from, first)
		}
		return copies(uint32(from), uint32(n))
	}
	n := r.four()
	must(n != 0 && n <= left, first)
	for _, a := range ahead {
		must(!a.lays, first)
	}
	b := make([]byte, 0, n)
	for range n {
		b = append(b, r.one())
	}
	return lays(string(b))
}

// info is what a patch says of itself.
func (x reading) info() patch.Info {
	if x.e != api.OK {
		return patch.Info{}
	}
	laid := 0
	for _, c := range x.parts {
		laid += len(c.bytes)
	}
	return patch.Info{Old: x.old, New: x.next, Before: int(x.before), After: int(x.after), Parts: len(x.parts), Laid: laid}
}

// applied is what Apply must answer.
func applied(old, p []byte) ([]byte, fault) {
	x := read(p)
	if x.e != api.OK {
		return nil, fault{x.e, x.at}
	}
	if uint64(len(old)) != uint64(x.before) || hashOf(old) != x.old {
		return nil, fault{api.ErrState, 5}
	}
	row := told(x.parts, old)
	if hashOf(row) != x.next {
		return nil, fault{api.ErrChain, 37}
	}
	return row, fault{}
}

// refused is what Join must answer where it tells no patch.
func refused(p, q []byte) fault {
	for _, b := range [][]byte{p, q} {
		if x := read(b); x.e != api.OK {
			return fault{x.e, x.at}
		}
	}
	if x, y := read(p), read(q); y.old != x.next || y.before != x.after {
		return fault{api.ErrState, 5}
	}
	return fault{}
}

// bound is how many bytes Make's answer may have.
func bound(old, next []byte) int {
	alone := 77
	if len(next) > 0 {
		alone += 5 + len(next)
	}
	shorter := min(len(old), len(next))
	head := sort.Search(shorter, func(n int) bool { return !bytes.HasPrefix(next, old[:n+1]) })
	tail := sort.Search(shorter-head, func(n int) bool { return !bytes.HasSuffix(next, old[len(old)-n-1:]) })
	ends := 77
	if head > 0 {
		ends += 9
	}
	if n := len(next) - head - tail; n > 0 {
		ends += 5 + n
	}
	if tail > 0 {
		ends += 9
	}
	return min(alone, ends)
}

// What follows holds the program against that.

// faultOf is an error's number and place, which must be told as the chapter says.
func faultOf(t testing.TB, err error) fault {
	t.Helper()
	if err == nil {
		return fault{}
	}
	w, is := err.(*patch.Wrong)
	var v *patch.Wrong
	var e api.Errno
	if !is || !errors.As(err, &v) || v != w || !errors.As(err, &e) || e != w.E || !errors.Is(err, w.E) || e == api.OK || err.Error() == "" {
		t.Fatalf("%v is no *Wrong, or has no number", err)
	}
	return fault{w.E, w.At}
}

// short is bytes, so many that they can be looked at.
func short(b []byte) []byte { return b[:min(len(b), 300)] }

// reads makes sure that Read answers as the chapter says, and tells it.
func reads(t testing.TB, p []byte) reading {
	t.Helper()
	want := read(p)
	info, err := patch.Read(p)
	if f := faultOf(t, err); f != (fault{want.e, want.at}) || info != want.info() {
		t.Fatalf("Read(%x): %+v, %v, want %+v, %v at %d", short(p), info, err, want.info(), want.e, want.at)
	}
	return want
}

// fails makes sure that Read answers just that.
func fails(t testing.TB, p []byte, e api.Errno, at int) {
	t.Helper()
	if x := reads(t, p); x.e != e || x.at != at {
		t.Fatalf("Read(%x): %v at %d, want %v at %d", short(p), x.e, x.at, e, at)
	}
}

// right makes sure that Read takes a patch, and that it has those parts.
func right(t testing.TB, p []byte, parts int) {
	t.Helper()
	if x := reads(t, p); x.e != api.OK || len(x.parts) != parts {
		t.Fatalf("Read(%x): %v at %d, %d parts, want %d", short(p), x.e, x.at, len(x.parts), parts)
	}
}

// applies makes sure that Apply answers as the chapter says, and tells it.
func applies(t testing.TB, old, p []byte) ([]byte, fault) {
	t.Helper()
	want, no := applied(old, p)
	row, err := patch.Apply(old, p)
	if f := faultOf(t, err); f != no || !bytes.Equal(row, want) {
		t.Fatalf("Apply(%x, %x): %x, %v, want %x, %v", short(old), short(p), short(row), err, short(want), no)
	}
	return row, no
}

// joins makes sure that Join answers as the chapter says, and tells it.
func joins(t testing.TB, p, q []byte) ([]byte, fault) {
	t.Helper()
	no := refused(p, q)
	j, err := patch.Join(p, q)
	if f := faultOf(t, err); f != no {
		t.Fatalf("Join(%x, %x): %v, want %v", short(p), short(q), err, no)
	}
	if no.e != api.OK {
		if len(j) != 0 {
			t.Fatalf("Join(%x, %x): %x beside %v", short(p), short(q), short(j), err)
		}
		return nil, no
	}
	x, y, z := read(p), read(q), reads(t, j)
	if z.e != api.OK || z.old != x.old || z.next != y.next || z.before != x.before || z.after != y.after {
		t.Fatalf("Join(%x, %x): %x", short(p), short(q), short(j))
	}
	row := numbered(x.before)
	if !slices.Equal(traced(z.parts, row), traced(y.parts, traced(x.parts, row))) {
		t.Fatalf("Join(%x, %x): %x tells something else", short(p), short(q), short(j))
	}
	return j, no
}

// makes makes sure that Make answers as the chapter says, and tells it.
func makes(t testing.TB, old, next []byte) []byte {
	t.Helper()
	p, e := patch.Make(old, next)
	if len(old) > most || len(next) > most {
		if e != api.ErrBytes || len(p) != 0 {
			t.Fatalf("Make of %d and %d bytes: %x, %v", len(old), len(next), short(p), e)
		}
		return nil
	}
	if e != api.OK {
		t.Fatalf("Make(%x, %x): %v", short(old), short(next), e)
	}
	x := reads(t, p)
	if x.e != api.OK || x.old != hashOf(old) || x.next != hashOf(next) || int(x.before) != len(old) || int(x.after) != len(next) {
		t.Fatalf("Make(%x, %x): %x", short(old), short(next), short(p))
	}
	if !bytes.Equal(told(x.parts, old), next) {
		t.Fatalf("Make(%x, %x): %x tells something else", short(old), short(next), short(p))
	}
	if n := bound(old, next); len(p) > n {
		t.Fatalf("Make(%x, %x): %d bytes, at most %d", short(old), short(next), len(p), n)
	}
	return p
}

// What follows are rows and patches of all kinds.

func anyOf[T any](r *rand.Rand, l ...T) T { return l[r.Intn(len(l))] }

// anyBytes is a row, often of few unlike bytes.
func anyBytes(r *rand.Rand, n int) []byte {
	b := make([]byte, n)
	kinds := anyOf(r, 1, 2, 3, 256)
	for i := range b {
		b[i] = byte(r.Intn(kinds))
	}
	return b
}

// akin is a row that shares pieces with another one.
func akin(r *rand.Rand, row []byte) []byte {
	next := slices.Clone(row)
	for range r.Intn(4) {
		at := r.Intn(len(next) + 1)
		end := at + r.Intn(len(next)-at+1)
		switch r.Intn(5) {
		case 0:
			next = slices.Delete(next, at, end)
		case 1:
			next = slices.Insert(next, at, anyBytes(r, r.Intn(12))...)
		case 2:
			next = slices.Insert(next, at, slices.Clone(next[at:end])...)
		case 3:
			next = slices.Concat(next[end:], next[:end])
		case 4:
			copy(next[at:end], anyBytes(r, r.Intn(9)))
		}
	}
	return next
}

// anyParts are such as may be, of a row of so many bytes.
func anyParts(r *rand.Rand, before uint32) []piece {
	var parts []piece
	longest := anyOf(r, 1, 2, 5, 30)
	for range anyOf(r, 0, 1, 2, 3, r.Intn(12), r.Intn(40)) {
		x := lays(string(anyBytes(r, 1+r.Intn(longest))))
		if before > 0 && r.Intn(3) > 0 {
			from := r.Intn(int(before))
			x = copies(uint32(from), 1+uint32(r.Intn(min(longest, int(before)-from))))
		}
		if len(parts) == 0 || !meets(parts[len(parts)-1], x) {
			parts = append(parts, x)
		}
	}
	return parts
}

// meets is whether a part may not stand right behind another one.
func meets(ahead, x piece) bool {
	if ahead.lays || x.lays {
		return ahead.lays && x.lays
	}
	return ahead.from+ahead.n == x.from
}

// anyPatch is a right one of a row, by hand-made parts, and the new row.
func anyPatch(r *rand.Rand, old []byte) (p, next []byte) {
	parts := anyParts(r, uint32(len(old)))
	next = told(parts, old)
	return words{hashOf(old), hashOf(next), uint32(len(old)), uint32(len(next)), parts}.written(), next
}

// anyStep is a right patch of a row, hand-made or made, and the new row.
func anyStep(t testing.TB, r *rand.Rand, old []byte) (p, next []byte) {
	t.Helper()
	if r.Intn(3) > 0 {
		return anyPatch(r, old)
	}
	next = akin(r, old)
	return makes(t, old, next), next
}

// changed is bytes with one turned, left out or put in, cut off, or as they were.
func changed(r *rand.Rand, b []byte) []byte {
	c := slices.Clone(b)
	if len(b) == 0 {
		return anyBytes(r, 1)
	}
	at := r.Intn(len(b))
	if r.Intn(2) == 0 { // where most bytes mean something
		at = min(len(b)-1, anyOf(r, r.Intn(5), 69+r.Intn(8), 77+r.Intn(30)))
	}
	switch r.Intn(8) {
	case 0:
		c[at] ^= 1 << r.Intn(8)
	case 1:
		c[at] = byte(r.Intn(256))
	case 2:
		c = slices.Delete(c, at, at+1)
	case 3:
		c = slices.Insert(c, at, byte(r.Intn(256)))
	case 4:
		c = c[:at]
	case 5:
		c = append(c, anyBytes(r, 1+r.Intn(30))...)
	case 6:
		c[at] = byte(r.Intn(4))
	case 7:
		c[at] ^= 1 << r.Intn(8)
		c = changed(r, c)
	}
	return c
}

// with is the same bytes with other ones at a place.
func with(b []byte, at int, l ...byte) []byte {
	c := slices.Clone(b)
	copy(c[at:], l)
	return c
}

// four is a number's bytes.
func four(n uint32) []byte { return binary.LittleEndian.AppendUint32(nil, n) }

// patches are some that are right: without parts, of few and of many, of copies and lays alone, with bytes that look like something else.
func patches() [][]byte {
	x := string(bytes.Repeat([]byte("portcullis"), 10))
	return [][]byte{
		between("", ""),
		between("abc", ""),
		between("", "a", lays("a")),
		between("abc", "abc", lays("abc")),
		between("abc", "bcx", copies(1, 2), lays("x")),
		between("abc", "xbc", lays("x"), copies(1, 2)),
		between("abc", "cba", copies(2, 1), copies(1, 1), copies(0, 1)),
		between("abc", "abcabc", copies(0, 3), copies(0, 3)),
		between(x, x, copies(0, 100)),
		between(x, x, copies(0, 40), lays("por"), copies(43, 57)),
		between("abcdef", "cdxyab", copies(2, 2), lays("xy"), copies(0, 2)),
		sized(0, 300, lays(string(bytes.Repeat([]byte{1, 2, 0, 3, 255}, 60)))),
		sized(most, 77, copies(most-1, 1), lays("PCPT\x01"), copies(0, 70), copies(9, 1)),
		sized(70000, 65536+258, copies(1, 65536), lays("\x00"), copies(257, 257)),
	}
}
