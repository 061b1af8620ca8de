package token_test

import (
	"crypto/hmac"
	"crypto/sha256"
	"encoding/binary"
	"errors"
	"math"
	"math/rand"
	"slices"
	"testing"

	"portcullis/api"
	"portcullis/chip"
	"portcullis/image"
	"portcullis/keys"
	"portcullis/store"
	"portcullis/token"
)

// The numbers of the document, written out.
const (
	mostSlots   = 8
	mostKeys    = 64
	mostID      = 64
	mostCaveats = 32
	mostVersion = 1<<32 - 1
	mostValue   = 1 << 62
	allKinds    = 0x3ffe
)

// What follows is a second reading of the chapter, which leans on nothing of the program.

// may is whether a caveat may be, by the chapter's table.
func may(c token.Caveat) bool {
	slot := c.Slot >= 0 && c.Slot <= 7
	switch c.Kind {
	case 1:
		return slot && c.From == 0 && c.To == 0 && c.Set == 0
	case 2:
		return c.Slot == 0 && c.Set == 0 && c.From >= 0 && c.From <= mostVersion && c.To >= 0 && c.To <= mostVersion && c.From <= c.To
	case 3:
		return c.Slot == 0 && c.From == 0 && c.To == 0 && c.Set != 0 && c.Set&^uint64(allKinds) == 0
	case 4:
		return slot && c.To == 0 && c.Set == 0 && c.From >= 0 && c.From <= mostValue
	case 5:
		return slot && c.From == 0 && c.Set == 0 && c.To >= 0 && c.To <= mostValue
	}
	return false
}

// mayBe is whether a token may be.
func mayBe(t token.Token) bool {
	if t.Key < 0 || t.Key > 63 || len(t.ID) < 1 || len(t.ID) > 64 || len(t.Caveats) > 32 {
		return false
	}
	return !slices.ContainsFunc(t.Caveats, func(c token.Caveat) bool { return !may(c) })
}

// told is a caveat's 26 bytes.
func told(c token.Caveat) []byte {
	b := []byte{byte(c.Kind), byte(c.Slot)}
	b = binary.LittleEndian.AppendUint64(b, uint64(c.From))
	b = binary.LittleEndian.AppendUint64(b, uint64(c.To))
	return binary.LittleEndian.AppendUint64(b, c.Set)
}

// bytesOf is a token's bytes, whether it may be or not.
func bytesOf(t token.Token) []byte {
	b := append([]byte("PCTK"), 1, byte(t.Key), byte(len(t.ID)), byte(len(t.Caveats)))
	b = append(b, t.ID...)
	for _, c := range t.Caveats {
		b = append(b, told(c)...)
	}
	return append(b, t.Tag[:]...)
}

// tagOf is the library's HMAC-SHA-256, which the program itself may not lean on.
func tagOf(secret, b []byte) api.Hash {
	h := hmac.New(sha256.New, secret)
	h.Write(b)
	return api.Hash(h.Sum(nil))
}

// rightTag is a token's right tag with a secret.
func rightTag(secret []byte, t token.Token) api.Hash {
	tag := tagOf(secret, slices.Concat([]byte("portcullis token"), []byte{0, byte(len(t.ID))}, t.ID))
	for _, c := range t.Caveats {
		tag = tagOf(tag[:], told(c))
	}
	return tag
}

// made is a token with its right tag, whether it may be or not.
func made(key int, id string, l ...token.Caveat) token.Token {
	t := token.Token{Key: key, ID: []byte(id), Caveats: l}
	t.Tag = rightTag(secretOf(key), t)
	return t
}

// answer is what Get answers: a token, or an error's number and its place.
type answer struct {
	token token.Token
	e     api.Errno
	at    int
}

// reader cuts parts off, until they are no longer there.
type reader struct {
	b    []byte
	at   int
	e    api.Errno
	done bool
}

func (r *reader) fail(e api.Errno, at int) {
	if !r.done {
		r.e, r.at, r.done = e, at, true
	}
}

func (r *reader) cut(n int) []byte {
	if r.done || r.at+n > len(r.b) {
		r.fail(api.ErrShort, len(r.b))
		return make([]byte, n)
	}
	r.at += n
	return r.b[r.at-n : r.at]
}

// oneOf cuts one byte off, which must be from one number on to another one.
func (r *reader) oneOf(from, to byte) int {
	v := r.cut(1)[0]
	if v < from || v > to {
		r.fail(api.ErrForm, r.at-1)
	}
	return int(v)
}

// read is what Get must answer.
func read(b []byte) answer {
	r := &reader{b: b}
	var t token.Token
	for _, v := range []byte{0x50, 0x43, 0x54, 0x4b, 0x01} {
		r.oneOf(v, v)
	}
	t.Key = r.oneOf(0, 63)
	length := r.oneOf(1, 64)
	count := r.oneOf(0, 32)
	if !r.done {
		t.ID = r.cut(length)
	}
	for i := 0; i < count && !r.done; i++ {
		at := r.at
		b := r.cut(26)
		c := token.Caveat{Kind: int(b[0]), Slot: int(b[1]), From: int64(binary.LittleEndian.Uint64(b[2:])), To: int64(binary.LittleEndian.Uint64(b[10:])), Set: binary.LittleEndian.Uint64(b[18:])}
		if !may(c) {
			r.fail(api.ErrForm, at)
		}
		t.Caveats = append(t.Caveats, c)
	}
	copy(t.Tag[:], r.cut(32))
	if r.at < len(b) {
		r.fail(api.ErrRest, r.at)
	}
	if r.done {
		return answer{e: r.e, at: r.at}
	}
	return answer{token: t}
}

func same(a, b token.Token) bool {
	return a.Key == b.Key && slices.Equal(a.ID, b.ID) && slices.Equal(a.Caveats, b.Caveats) && a.Tag == b.Tag
}

func isZero(t token.Token) bool { return same(t, token.Token{}) }

func again(t token.Token) token.Token {
	t.ID, t.Caveats = slices.Clone(t.ID), slices.Clone(t.Caveats)
	return t
}

// got makes sure what Get answers, and tells its answer.
func got(t *testing.T, b []byte) answer {
	t.Helper()
	x, err := token.Get(b)
	if err == nil {
		return answer{token: x}
	}
	var e api.Errno
	var w *image.Wrong
	if !isZero(x) {
		t.Fatalf("Get(%x): %+v beside %v", b, x, err)
	}
	if !errors.As(err, &e) || !errors.As(err, &w) || w.E != e || e == api.OK {
		t.Fatalf("Get(%x): %v has no number, or no place", b, err)
	}
	return answer{e: e, at: w.At}
}

// gets makes sure that Get answers as the chapter says.
func gets(t *testing.T, b []byte) answer {
	t.Helper()
	want := read(b)
	x := got(t, b)
	if x.e != want.e || x.at != want.at || !same(x.token, want.token) {
		t.Fatalf("Get(%x): %+v, want %+v", b, x, want)
	}
	return x
}

// secretOf is the one of a key, wherever a ring has it: of 1 byte up to 256.
func secretOf(key int) []byte {
	n := []int{3, 1, 256, 64, 65, 2, 255, 32}[key&7]
	b := make([]byte, n)
	for i := range b {
		b[i] = byte(key*31 + i*7 + 1)
	}
	return b
}

func ringOf(t testing.TB, known ...int) *keys.Ring {
	t.Helper()
	var l []api.Secret
	for _, k := range known {
		l = append(l, api.Secret{Key: k, Bytes: secretOf(k)})
	}
	r, e, at := keys.New(l)
	if e != api.OK {
		t.Fatalf("New(%v): %v at %d", known, e, at)
	}
	return r
}

func upTo(n int) []int {
	l := make([]int, n)
	for i := range l {
		l[i] = i
	}
	return l
}

// bench is a chip with its store, a ring, and what a test knows of them by what it did.
type bench struct {
	config  api.Config
	chip    *chip.Chip
	store   *store.Store
	ring    *keys.Ring
	known   []int // the keys of the ring
	values  []int64
	revoked []int
	out     bool
}

func benchOf(t testing.TB, g api.Config, known ...int) *bench {
	t.Helper()
	c, e := chip.New(g)
	if e != api.OK {
		t.Fatalf("New(%+v): %v", g, e)
	}
	x := &bench{config: g, chip: c, ring: ringOf(t, known...), known: known, values: make([]int64, g.Slots)}
	x.mount(t)
	return x
}

// ordinary has the slots 0 to 2, of the values 0, 5 and 20, and the keys 0 to 5, of which 2 is revoked; its ring lacks 3 and has 7.
func ordinary(t testing.TB) *bench {
	t.Helper()
	x := benchOf(t, api.Config{Cells: 12, Slots: 3, Fuses: 6, Step: 10, Keys: 6, Erases: 9}, 0, 1, 2, 4, 5, 7)
	x.raise(t, 1, 5)
	x.raise(t, 2, 20)
	x.revoke(t, 2)
	return x
}

func (x *bench) mount(t testing.TB) {
	t.Helper()
	s, e := store.Mount(x.chip)
	if e != api.OK {
		t.Fatalf("Mount: %v", e)
	}
	x.store = s
}

func (x *bench) raise(t testing.TB, slot int, v int64) {
	t.Helper()
	if e := x.store.BumpTo(slot, v); e != api.OK {
		t.Fatalf("BumpTo(%d, %d): %v", slot, v, e)
	}
	x.values[slot] = max(v, x.values[slot])
}

func (x *bench) revoke(t testing.TB, key int) {
	t.Helper()
	if e := x.store.Revoke(key); e != api.OK {
		t.Fatalf("Revoke(%d): %v", key, e)
	}
	x.revoked = append(x.revoked, key)
}

// off lets the power go, at an act that leaves nothing.
func (x *bench) off(t testing.TB) {
	t.Helper()
	x.chip.Cut(0, nil)
	if e := x.chip.Blow(0); e != api.ErrPower || !x.chip.Out() {
		t.Fatalf("the power is there: %v", e)
	}
	x.out = true
}

func (x *bench) restore() {
	x.chip.Restore()
	x.out = false
}

// unmet is what the chapter's table tells of a caveat and a wish.
func (x *bench) unmet(c token.Caveat, w token.Wish) api.Errno {
	if c.Kind == 4 || c.Kind == 5 {
		if c.Slot >= x.config.Slots {
			return api.ErrRange
		}
		if v := x.values[c.Slot]; c.Kind == 4 && v < c.From || c.Kind == 5 && v > c.To {
			return api.ErrState
		}
	}
	if c.Kind == 1 && w.Slot != c.Slot {
		return api.ErrRange
	}
	if c.Kind == 2 && (w.Version < c.From || w.Version > c.To) {
		return api.ErrVersion
	}
	if c.Kind == 3 {
		for bit := range 64 {
			if bit == w.Kind && c.Set&(1<<bit) != 0 {
				return api.OK
			}
		}
		return api.ErrKind
	}
	return api.OK
}

// says is what Check must answer.
func (x *bench) says(t token.Token, w token.Wish) api.Errno {
	switch {
	case x.out:
		return api.ErrPower
	case !mayBe(t):
		return api.ErrForm
	case !slices.Contains(x.known, t.Key) || t.Key >= x.config.Keys:
		return api.ErrKey
	case slices.Contains(x.revoked, t.Key):
		return api.ErrRevoked
	case t.Tag != rightTag(secretOf(t.Key), t):
		return api.ErrTag
	}
	for _, c := range t.Caveats {
		if e := x.unmet(c, w); e != api.OK {
			return e
		}
	}
	return api.OK
}

// checks makes sure that Check answers as the chapter says, and does no act; it tells the answer.
func (x *bench) checks(t testing.TB, k token.Token, w token.Wish) api.Errno {
	t.Helper()
	acts := x.chip.Acts()
	e := token.Check(x.ring, x.store, k, w)
	if want := x.says(k, w); e != want {
		t.Fatalf("Check(%+v, %+v): %v, want %v", k, w, e, want)
	}
	if x.chip.Acts() != acts || x.chip.Out() != x.out {
		t.Fatalf("Check(%+v, %+v) has done an act", k, w)
	}
	return e
}

// expects makes sure that Check answers just that.
func (x *bench) expects(t testing.TB, k token.Token, w token.Wish, want api.Errno) {
	t.Helper()
	if e := x.checks(t, k, w); e != want {
		t.Fatalf("Check(%+v, %+v): %v, want %v", k, w, e, want)
	}
}

// What follows are caveats, tokens and wishes of all kinds.

// ints are numbers at which something might go wrong.
func ints() []int {
	return []int{math.MinInt, -1 << 32, -257, -256, -2, -1, 0, 1, 6, 7, 8, 9, 63, 64, 65, 255, 256, 257, 1 << 32, math.MaxInt - 1, math.MaxInt}
}

func anyOf[T any](r *rand.Rand, l ...T) T { return l[r.Intn(len(l))] }

// anyNumber is a number up to most, often one near its ends.
func anyNumber(r *rand.Rand, most int64) int64 {
	switch r.Intn(4) {
	case 0:
		return anyOf(r, 0, 1, most-1, most)
	case 1:
		return min(most, r.Int63n(30))
	}
	return r.Int63n(most + 1)
}

// anyCaveat is one that may be.
func anyCaveat(r *rand.Rand) token.Caveat {
	slot := r.Intn(mostSlots)
	switch r.Intn(5) {
	case 0:
		return token.Caveat{Kind: token.Slot, Slot: slot}
	case 1:
		a, b := anyNumber(r, mostVersion), anyNumber(r, mostVersion)
		return token.Caveat{Kind: token.Version, From: min(a, b), To: max(a, b)}
	case 2:
		return token.Caveat{Kind: token.Kinds, Set: 1<<(1+r.Intn(13)) | r.Uint64()&allKinds}
	case 3:
		return token.Caveat{Kind: token.Least, Slot: slot, From: anyNumber(r, mostValue)}
	}
	return token.Caveat{Kind: token.Most, Slot: slot, To: anyNumber(r, mostValue)}
}

// easyCaveat is one that many wishes meet on a bench of few slots, and some don't.
func easyCaveat(r *rand.Rand, slots int) token.Caveat {
	slot := r.Intn(slots)
	switch r.Intn(8) {
	case 0:
		return token.Caveat{Kind: token.Slot, Slot: slot}
	case 1, 2:
		return token.Caveat{Kind: token.Version, From: r.Int63n(4), To: 4 + r.Int63n(30)}
	case 3, 4:
		return token.Caveat{Kind: token.Kinds, Set: 1<<(1+r.Intn(13)) | (r.Uint64()|r.Uint64())&allKinds}
	case 5, 6:
		return token.Caveat{Kind: token.Least, Slot: slot, From: r.Int63n(8)}
	}
	return token.Caveat{Kind: token.Most, Slot: slot, To: 3 + r.Int63n(40)}
}

// anyField is whatever a caveat's field may hold.
func anyField(r *rand.Rand) int64 {
	switch r.Intn(5) {
	case 0:
		return 0
	case 1:
		return int64(r.Uint64())
	case 2:
		return anyOf[int64](r, math.MinInt64, -1, mostVersion, mostVersion+1, mostValue, mostValue+1, math.MaxInt64)
	case 3:
		return 1 << r.Intn(63)
	}
	return r.Int63n(20) - 3
}

// wildCaveat is one that may be, or not; where not, often in one field alone.
func wildCaveat(r *rand.Rand) token.Caveat {
	c := anyCaveat(r)
	switch r.Intn(8) {
	case 0:
		return token.Caveat{Kind: int(anyField(r)), Slot: int(anyField(r)), From: anyField(r), To: anyField(r), Set: uint64(anyField(r))}
	case 1:
		c.Kind = anyOf(r, -1, 0, 1, 2, 3, 4, 5, 6, 255, 256, 257, 259, math.MinInt, math.MaxInt)
	case 2:
		c.Slot = int(anyField(r))
	case 3:
		c.From = anyField(r)
	case 4:
		c.To = anyField(r)
	case 5:
		c.Set = uint64(anyField(r))
	}
	return c
}

func anyBytes(r *rand.Rand, n int) []byte {
	b := make([]byte, n)
	r.Read(b)
	return b
}

// anyToken is one that may be, with its right tag.
func anyToken(r *rand.Rand) token.Token {
	var l []token.Caveat
	for range anyOf(r, 0, 1, 2, r.Intn(33), 31, 32) {
		l = append(l, anyCaveat(r))
	}
	return made(r.Intn(mostKeys), string(anyBytes(r, anyOf(r, 1, 2, 1+r.Intn(64), 64))), l...)
}

// easyToken is one of a bench's keys, with few caveats.
func easyToken(r *rand.Rand, x *bench) token.Token {
	var l []token.Caveat
	for range r.Intn(4) {
		l = append(l, easyCaveat(r, x.config.Slots))
	}
	return made(anyOf(r, x.known...), string(anyBytes(r, 1+r.Intn(4))), l...)
}

func anyWish(r *rand.Rand) token.Wish {
	w := token.Wish{Kind: 1 + r.Intn(13), Slot: r.Intn(4), Version: r.Int63n(35)}
	switch r.Intn(12) {
	case 0:
		w.Kind = anyOf(r, ints()...)
	case 1:
		w.Slot = anyOf(r, ints()...)
	case 2:
		w.Version = anyField(r)
	}
	return w
}
