package stream_test

import (
	"crypto/hmac"
	"crypto/sha256"
	"encoding/binary"
	"fmt"
	"math/rand"
	"slices"
	"testing"

	"portcullis/api"
	"portcullis/chip"
	"portcullis/gate"
	"portcullis/keys"
	"portcullis/sha"
	"portcullis/store"
	"portcullis/stream"
)

// The numbers of the document, written out.
const (
	mostBytes   = 524288
	mostPayload = 524240
	bareBytes   = 48
	mostSlots   = 8
	mostKeys    = 64
)

// What follows is a second reading of the chapters, which leans on nothing of the program.

// hashOf is the library's SHA-256, which the program itself may not lean on.
func hashOf(b []byte) api.Hash { return sha256.Sum256(b) }

// tagOf is the library's HMAC-SHA-256.
func tagOf(secret, b []byte) api.Hash {
	h := hmac.New(sha256.New, secret)
	h.Write(b)
	return api.Hash(h.Sum(nil))
}

// secretOf is the one of a key, wherever a ring has it.
func secretOf(key int) []byte { return []byte{byte(key), 0x5e, 0xc2} }

// by is an image, signed with the secret of whatever key.
func by(signer, slot, key int, version int64, payload ...byte) []byte {
	b := []byte{'P', 'C', 'U', 'L', 1, byte(slot), byte(key), 0}
	b = binary.LittleEndian.AppendUint32(b, uint32(version))
	b = binary.LittleEndian.AppendUint32(b, uint32(len(payload)))
	b = append(b, payload...)
	tag := tagOf(secretOf(signer), b)
	return append(b, tag[:]...)
}

// right is an image that is signed with the key that it names.
func right(slot, key int, version int64, payload ...byte) []byte {
	return by(key, slot, key, version, payload...)
}

// form is the number of image.Parse's error, as chapter 11 has it.
func form(b []byte) api.Errno {
	if len(b) > mostBytes {
		return api.ErrBytes
	}
	for at, most := range []byte{'P', 'C', 'U', 'L', 1, 7, 63, 0} {
		if at >= len(b) {
			return api.ErrShort
		}
		if b[at] > most || at != 5 && at != 6 && b[at] != most {
			return api.ErrForm
		}
	}
	if len(b) < 16 {
		return api.ErrShort
	}
	whole := bareBytes + int64(binary.LittleEndian.Uint32(b[12:]))
	switch {
	case whole > mostBytes:
		return api.ErrForm
	case int64(len(b)) < whole:
		return api.ErrShort
	case int64(len(b)) > whole:
		return api.ErrRest
	}
	return api.OK
}

// sum is what Sum answers.
type sum struct {
	slot, key int
	version   int64
	payload   int
	e         api.Errno
}

// bench is a chip with its store, a ring, and what a test knows of them by what it did.
type bench struct {
	config  api.Config
	chip    *chip.Chip
	store   *store.Store
	ring    *keys.Ring
	known   []int // the keys of the ring
	values  []int64
	revoked []int
	out     bool
}

func benchOf(t testing.TB, g api.Config, known ...int) *bench {
	t.Helper()
	c, e := chip.New(g)
	if e != api.OK {
		t.Fatalf("New(%+v): %v", g, e)
	}
	var l []api.Secret
	for _, k := range known {
		l = append(l, api.Secret{Key: k, Bytes: secretOf(k)})
	}
	ring, e, at := keys.New(l)
	if e != api.OK {
		t.Fatalf("New(%v): %v at %d", known, e, at)
	}
	x := &bench{config: g, chip: c, ring: ring, known: known, values: make([]int64, g.Slots)}
	x.mount(t)
	return x
}

// example is the chapter's: 1 slot, 2 keys, of which the key 1 was revoked; a ring with the secrets 0, 1, 2.
func example(t testing.TB) *bench {
	t.Helper()
	x := benchOf(t, api.Config{Cells: 8, Slots: 1, Fuses: 2, Step: 3, Keys: 2}, 0, 1, 2)
	x.revoke(t, 1)
	return x
}

// ordinary has the slots 0 to 2, of the values 0, 5 and 20 (the last one is 79), and the keys 0 to 5, of which 2 and 3 are revoked; its ring lacks 3 and 4 and has 7.
func ordinary(t testing.TB) *bench {
	t.Helper()
	x := benchOf(t, api.Config{Cells: 12, Slots: 3, Fuses: 7, Step: 10, Keys: 6, Erases: 9}, 0, 1, 2, 5, 7)
	x.raise(t, 1, 5)
	x.raise(t, 2, 20)
	x.revoke(t, 2)
	x.revoke(t, 3)
	return x
}

func (x *bench) mount(t testing.TB) {
	t.Helper()
	s, e := store.Mount(x.chip)
	if e != api.OK {
		t.Fatalf("Mount: %v", e)
	}
	x.store = s
}

func (x *bench) raise(t testing.TB, slot int, v int64) {
	t.Helper()
	if e := x.store.BumpTo(slot, v); e != api.OK {
		t.Fatalf("BumpTo(%d, %d): %v", slot, v, e)
	}
	x.values[slot] = max(v, x.values[slot])
}

func (x *bench) revoke(t testing.TB, key int) {
	t.Helper()
	if e := x.store.Revoke(key); e != api.OK {
		t.Fatalf("Revoke(%d): %v", key, e)
	}
	x.revoked = append(x.revoked, key)
}

// off lets the power go, at an act that leaves nothing.
func (x *bench) off(t testing.TB) {
	t.Helper()
	x.chip.Cut(0, nil)
	if e := x.chip.Blow(0); e != api.ErrPower || !x.chip.Out() {
		t.Fatalf("the power is there: %v", e)
	}
	x.out = true
}

func (x *bench) restore() {
	x.chip.Restore()
	x.out = false
}

func (x *bench) last() int64 {
	return int64(x.config.Step)*int64(x.config.Fuses) + int64(x.config.Step) - 1
}

// has tells whether both the ring and the chip have a key.
func (x *bench) has(key int) bool { return slices.Contains(x.known, key) && key < x.config.Keys }

// tells is what a Write must answer behind which just these bytes were written, while there is power.
func (x *bench) tells(b []byte) api.Errno {
	if e := form(b); e != api.OK && e != api.ErrShort {
		return e
	}
	switch {
	case len(b) > 5 && int(b[5]) >= x.config.Slots:
		return api.ErrForm
	case len(b) > 6 && !x.has(int(b[6])):
		return api.ErrKey
	case len(b) > 6 && slices.Contains(x.revoked, int(b[6])):
		return api.ErrRevoked
	}
	return api.OK
}

// judges is what Sum must answer, of all bytes together, by chapter 13.
func (x *bench) judges(b []byte) sum {
	if x.out {
		return sum{e: api.ErrPower}
	}
	if e := form(b); e != api.OK {
		return sum{e: e}
	}
	s := sum{slot: int(b[5]), key: int(b[6]), version: int64(binary.LittleEndian.Uint32(b[8:])), payload: len(b) - bareBytes}
	switch {
	case s.slot >= x.config.Slots:
		return sum{e: api.ErrForm}
	case !x.has(s.key):
		return sum{e: api.ErrKey}
	case slices.Contains(x.revoked, s.key):
		return sum{e: api.ErrRevoked}
	case api.Hash(b[len(b)-32:]) != tagOf(secretOf(s.key), b[:len(b)-32]):
		return sum{e: api.ErrTag}
	case s.version < x.values[s.slot] || s.version > x.last():
		return sum{e: api.ErrVersion}
	}
	return s
}

// flow is a gate, and all that was written to it.
type flow struct {
	x   *bench
	g   *stream.Gate
	all []byte
}

func (x *bench) flow() *flow { return &flow{x: x, g: stream.New(x.store, x.ring)} }

// still makes sure that a call does no act.
func (f *flow) still(t testing.TB, call func()) {
	t.Helper()
	acts := f.x.chip.Acts()
	call()
	if f.x.chip.Acts() != acts || f.x.chip.Out() != f.x.out {
		t.Fatalf("%d acts behind %s", f.x.chip.Acts()-acts, short(f.all))
	}
}

// writes makes sure that Write answers as the chapter says, and tells the answer.
func (f *flow) writes(t testing.TB, b []byte) api.Errno {
	t.Helper()
	want := api.ErrPower
	if !f.x.out {
		f.all = append(f.all, b...)
		want = f.x.tells(f.all)
	}
	f.still(t, func() {
		if e := f.g.Write(b); e != want {
			t.Fatalf("Write(%s), the last of %s: %d, want %d", short(b), short(f.all), e, want)
		}
	})
	return want
}

// expects makes sure that Write answers just that.
func (f *flow) expects(t testing.TB, b string, want api.Errno) {
	t.Helper()
	if e := f.writes(t, []byte(b)); e != want {
		t.Fatalf("Write(%s), the last of %s: %d, want %d", short([]byte(b)), short(f.all), e, want)
	}
}

// sums makes sure that Sum answers as the chapter says, and what gate.Check tells of all bytes together; it tells the error.
func (f *flow) sums(t testing.TB) api.Errno {
	t.Helper()
	want := f.x.judges(f.all)
	f.still(t, func() {
		var s sum
		s.slot, s.key, s.version, s.payload, s.e = f.g.Sum()
		if s != want {
			t.Fatalf("Sum of %s: %+v, want %+v", short(f.all), s, want)
		}
	})
	m, e := gate.Check(f.x.store, f.x.ring, f.all)
	if (sum{m.Slot, m.Key, m.Version, len(m.Payload), e}) != want {
		t.Fatalf("Check of %s: %+v, %d, want %+v", short(f.all), m, e, want)
	}
	return want.e
}

// ends makes sure that Sum tells just that error.
func (f *flow) ends(t testing.TB, want api.Errno) {
	t.Helper()
	if e := f.sums(t); e != want {
		t.Fatalf("Sum of %s: %d, want %d", short(f.all), e, want)
	}
}

// digests makes sure that Digest tells the hash of all bytes together.
func (f *flow) digests(t testing.TB) {
	t.Helper()
	f.still(t, func() {
		if h := f.g.Digest(); h != hashOf(f.all) || h != sha.Of(f.all) {
			t.Fatalf("Digest of %s: %x", short(f.all), h)
		}
	})
}

func (f *flow) resets(t testing.TB) {
	t.Helper()
	f.still(t, f.g.Reset)
	f.all = nil
}

// asks makes sure of all that is told behind what was written, and tells Sum's error.
func (f *flow) asks(t testing.TB) api.Errno {
	t.Helper()
	f.digests(t)
	return f.sums(t)
}

// takes writes pieces one behind the other and asks for all behind each; it tells the last Write's answer and Sum's error.
func (f *flow) takes(t testing.TB, pieces ...[]byte) (write, sum api.Errno) {
	t.Helper()
	sum = f.asks(t)
	for _, b := range pieces {
		write = f.writes(t, b)
		sum = f.asks(t)
	}
	return write, sum
}

// short tells bytes for a message.
func short(b []byte) string {
	if len(b) > 80 {
		return fmt.Sprintf("%x.. (%d bytes)", b[:80], len(b))
	}
	return fmt.Sprintf("%x", b)
}

// What follows are rows of bytes, and ways to cut them.

func anyOf[T any](r *rand.Rand, l ...T) T { return l[r.Intn(len(l))] }

func anyBytes(r *rand.Rand, n int) []byte {
	b := make([]byte, n)
	r.Read(b)
	return b
}

func with(b []byte, at int, v byte) []byte {
	c := slices.Clone(b)
	c[at] = v
	return c
}

func behind(b []byte, rest ...byte) []byte { return slices.Concat(b, rest) }

func upTo(n int) []int {
	l := make([]int, n)
	for i := range l {
		l[i] = i
	}
	return l
}

// each is a row in pieces of so many bytes.
func each(b []byte, n int) [][]byte { return slices.Collect(slices.Chunk(b, n)) }

// cut is a row in random pieces, with such of no bytes between.
func cut(r *rand.Rand, b []byte) [][]byte {
	var l [][]byte
	most := anyOf(r, 2, 5, 20, len(b)+1)
	for len(b) > 0 {
		n := min(r.Intn(most), len(b))
		l = append(l, b[:n])
		b = b[n:]
		if r.Intn(4) == 0 {
			l = append(l, anyOf(r, nil, []byte{}))
		}
	}
	return l
}

// anyImage is an image that the gate of a bench might take, or not: often for one reason alone.
func anyImage(r *rand.Rand, x *bench) []byte {
	slot, key := r.Intn(x.config.Slots), anyOf(r, x.known...)
	version := anyOf(r, x.values[slot], x.last(), x.values[slot]+r.Int63n(x.last()-x.values[slot]+1))
	signer := key
	switch r.Intn(8) {
	case 0:
		slot = r.Intn(mostSlots)
	case 1:
		key = r.Intn(mostKeys)
		signer = key
	case 2:
		version = anyOf(r, x.values[slot]-1, x.last()+1, int64(r.Uint32()))
	case 3:
		signer = (key + 1) % mostKeys
	}
	return by(signer, slot, key, version, anyBytes(r, anyOf(r, 0, 1, r.Intn(40)))...)
}

// anyRow is such an image, whole or with a byte changed, cut off or laid behind; or any bytes.
func anyRow(r *rand.Rand, x *bench) []byte {
	b := anyImage(r, x)
	switch r.Intn(10) {
	case 0:
		return anyBytes(r, r.Intn(70))
	case 1, 2:
		return b[:r.Intn(len(b))]
	case 3:
		return behind(b, anyBytes(r, 1+r.Intn(30))...)
	case 4:
		at := r.Intn(16)
		return with(b, at, byte(r.Intn(256)))
	case 5:
		at := r.Intn(len(b))
		return with(b, at, b[at]^1<<r.Intn(8))
	}
	return b
}

func sameChip(a, b api.Chip) bool {
	return slices.EqualFunc(a.Pages, b.Pages, slices.Equal) && slices.Equal(a.Erases, b.Erases) && slices.Equal(a.Blown, b.Blown)
}
