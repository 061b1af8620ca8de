package gate_test

import (
	"bytes"
	"crypto/hmac"
	"crypto/sha256"
	"encoding/binary"
	"fmt"
	"hash/crc32"
	"math"
	"math/rand"
	"slices"
	"sync"
	"testing"

	"portcullis/api"
	"portcullis/chip"
	"portcullis/gate"
	"portcullis/image"
	"portcullis/keys"
	"portcullis/mac"
	"portcullis/store"
)

// The numbers of the document, written out.
const (
	mostBytes   = 524288
	mostPayload = 524240
	mostSlots   = 8
	mostKeys    = 64
	mostVersion = 1<<32 - 1
)

func row(r *rand.Rand, n int) []byte {
	b := make([]byte, n)
	r.Read(b)
	return b
}

// tagOf is the library's HMAC-SHA-256, which the program itself may not lean on.
func tagOf(secret, b []byte) api.Hash {
	h := hmac.New(sha256.New, secret)
	h.Write(b)
	return api.Hash(h.Sum(nil))
}

// secretOf is the one of a key, wherever a ring has it.
func secretOf(key int) []byte { return []byte{byte(key), 0x5e, 0xc2} }

// covered is what stands ahead of an image's tag, as chapter 11 has it.
func covered(x api.Image) []byte {
	b := []byte{0x50, 0x43, 0x55, 0x4c, 0x01, byte(x.Slot), byte(x.Key), 0x00}
	b = binary.LittleEndian.AppendUint32(b, uint32(x.Version))
	b = binary.LittleEndian.AppendUint32(b, uint32(len(x.Payload)))
	return append(b, x.Payload...)
}

// by is an image, signed with the secret of whatever key.
func by(key int, x api.Image) []byte {
	b := covered(x)
	tag := tagOf(secretOf(key), b)
	return append(b, tag[:]...)
}

// right is an image that is signed with the key that it names.
func right(slot, key int, version int64, payload ...byte) []byte {
	return by(key, api.Image{Slot: slot, Key: key, Version: version, Payload: payload})
}

func turned(b []byte, bit int) []byte {
	c := slices.Clone(b)
	c[bit/8] ^= 1 << (bit % 8)
	return c
}

// bench is a chip with its store, a ring, and what a test knows of them by what it did.
type bench struct {
	config  api.Config
	chip    *chip.Chip
	store   *store.Store
	ring    *keys.Ring
	known   []int // the keys of the ring
	values  []int64
	revoked []int
	out     bool
}

func made(t *testing.T, g api.Config, known ...int) *bench {
	t.Helper()
	c, e := chip.New(g)
	if e != api.OK {
		t.Fatalf("New(%+v): %v", g, e)
	}
	return on(t, c, known...)
}

// on is a bench on a chip that holds something already; its slots' values are for the test to tell.
func on(t *testing.T, c *chip.Chip, known ...int) *bench {
	t.Helper()
	x := &bench{config: c.Config(), chip: c, known: known, values: make([]int64, c.Config().Slots)}
	x.mount(t)
	var l []api.Secret
	for _, k := range known {
		l = append(l, api.Secret{Key: k, Bytes: secretOf(k)})
	}
	ring, e, at := keys.New(l)
	if e != api.OK {
		t.Fatalf("New(%v): %v at %d", known, e, at)
	}
	x.ring = ring
	return x
}

func (x *bench) mount(t *testing.T) {
	t.Helper()
	s, e := store.Mount(x.chip)
	if e != api.OK {
		t.Fatalf("Mount: %v", e)
	}
	x.store = s
}

func (x *bench) raise(t *testing.T, slot int, v int64) {
	t.Helper()
	if e := x.store.BumpTo(slot, v); e != api.OK {
		t.Fatalf("BumpTo(%d, %d): %v", slot, v, e)
	}
	x.values[slot] = v
}

func (x *bench) revoke(t *testing.T, key int) {
	t.Helper()
	if e := x.store.Revoke(key); e != api.OK {
		t.Fatalf("Revoke(%d): %v", key, e)
	}
	x.revoked = append(x.revoked, key)
}

// off lets the power go, at an act that leaves nothing.
func (x *bench) off(t *testing.T) {
	t.Helper()
	x.chip.Cut(0, nil)
	if e := x.chip.Program(0, 0, api.Cell{}); e != api.ErrPower || !x.chip.Out() {
		t.Fatalf("the power is there: %v", e)
	}
	x.out = true
}

func (x *bench) restore() {
	x.chip.Restore()
	x.out = false
}

func (x *bench) last() int64 {
	return int64(x.config.Step)*int64(x.config.Fuses) + int64(x.config.Step) - 1
}

func all(n int) []int {
	var l []int
	for k := range n {
		l = append(l, k)
	}
	return l
}

// example is the chapter's.
func example(t *testing.T) *bench {
	t.Helper()
	x := made(t, api.Config{Cells: 8, Slots: 2, Fuses: 3, Step: 10, Keys: 4, Erases: 5}, 1, 2, 7)
	x.raise(t, 1, 5)
	x.revoke(t, 2)
	return x
}

// form is what image.Parse must say, as chapter 11 has it.
func form(b []byte) (api.Image, api.Errno) {
	if len(b) > mostBytes {
		return api.Image{}, api.ErrBytes
	}
	for at, want := range []byte{'P', 'C', 'U', 'L', 1, 7, 63, 0} {
		if at >= len(b) {
			return api.Image{}, api.ErrShort
		}
		if at != 5 && at != 6 && b[at] != want || b[at] > want {
			return api.Image{}, api.ErrForm
		}
	}
	if len(b) < 16 {
		return api.Image{}, api.ErrShort
	}
	n := int(binary.LittleEndian.Uint32(b[12:]))
	switch {
	case 48+n > mostBytes:
		return api.Image{}, api.ErrForm
	case len(b) < 48+n:
		return api.Image{}, api.ErrShort
	case len(b) > 48+n:
		return api.Image{}, api.ErrRest
	}
	version := int64(binary.LittleEndian.Uint32(b[8:]))
	return api.Image{Slot: int(b[5]), Key: int(b[6]), Version: version, Payload: b[16 : 16+n], Tag: api.Hash(b[16+n:])}, api.OK
}

// judged is what Check must answer, as the chapter's words have it.
func (x *bench) judged(b []byte) (api.Image, api.Errno) {
	im, e := form(b)
	switch {
	case x.out:
		e = api.ErrPower
	case e != api.OK:
	case im.Slot >= x.config.Slots:
		e = api.ErrForm
	case !slices.Contains(x.known, im.Key) || im.Key >= x.config.Keys:
		e = api.ErrKey
	case slices.Contains(x.revoked, im.Key):
		e = api.ErrRevoked
	case im.Tag != tagOf(secretOf(im.Key), b[:len(b)-32]):
		e = api.ErrTag
	case im.Version < x.values[im.Slot] || im.Version > x.last():
		e = api.ErrVersion
	}
	if e != api.OK {
		return api.Image{}, e
	}
	return im, api.OK
}

func same(a, b api.Image) bool {
	return a.Slot == b.Slot && a.Key == b.Key && a.Version == b.Version && bytes.Equal(a.Payload, b.Payload) && a.Tag == b.Tag
}

func sameChip(a, b api.Chip) bool {
	return slices.EqualFunc(a.Pages, b.Pages, slices.Equal) && slices.Equal(a.Erases, b.Erases) && slices.Equal(a.Blown, b.Blown)
}

// short tells bytes for a message.
func short(b []byte) string {
	if len(b) > 80 {
		return fmt.Sprintf("%x.. (%d bytes)", b[:80], len(b))
	}
	return fmt.Sprintf("%x", b)
}

// judges holds Check's answer to any bytes against the words, and tells its number.
func (x *bench) judges(t *testing.T, b []byte) api.Errno {
	t.Helper()
	want, wantE := x.judged(b)
	acts := x.chip.Acts()
	got, e := gate.Check(x.store, x.ring, b)
	if e != wantE || !same(got, want) {
		t.Fatalf("Check(%s): %+v, %d, want %+v, %d", short(b), got, e, want, wantE)
	}
	if x.chip.Acts() != acts || x.chip.Out() != x.out {
		t.Fatalf("Check(%s): %d acts", short(b), x.chip.Acts()-acts)
	}
	return e
}

// tells holds Check's number against one that the test has written out, and the words too.
func (x *bench) tells(t *testing.T, b []byte, want api.Errno) {
	t.Helper()
	if e := x.judges(t, b); e != want {
		t.Fatalf("Check(%s): %d, want %d", short(b), e, want)
	}
}

// P13.1: the examples of the chapter.
func TestExamples(t *testing.T) {
	x := example(t)
	for i, c := range []struct {
		b    []byte
		want api.Errno
	}{
		{right(1, 1, 5), api.OK},
		{right(1, 1, 4), api.ErrVersion},
		{right(1, 1, 39), api.OK},
		{right(1, 1, 40), api.ErrVersion},
		{by(2, api.Image{Slot: 1, Key: 1, Version: 5}), api.ErrTag},
		{right(1, 2, 4), api.ErrRevoked},
		{by(1, api.Image{Slot: 1, Key: 2, Version: 4}), api.ErrRevoked},
		{turned(right(1, 2, 4), 8*47), api.ErrRevoked},
		{right(1, 0, 5), api.ErrKey},
		{right(1, 7, 5), api.ErrKey},
		{right(2, 1, 5), api.ErrForm},
		{append(right(1, 1, 5), 0), api.ErrRest},
	} {
		got, e := gate.Check(x.store, x.ring, c.b)
		want := api.Image{}
		if e == api.OK {
			want = api.Image{Slot: 1, Key: 1, Version: int64(c.b[8]), Tag: api.Hash(c.b[16:])}
		}
		if e != c.want || !same(got, want) {
			t.Errorf("%d: %+v, %d, want %d", i, got, e, c.want)
		}
		x.tells(t, c.b, c.want)
	}
}

// P13.1: the seventh example of the document: a counter that is raised, and a key that is revoked.
func TestExampleOfTheWhole(t *testing.T) {
	x := made(t, api.Config{Cells: 8, Slots: 1, Fuses: 2, Step: 3, Keys: 1}, 0)
	two, one := right(0, 0, 2, 'n', 'e', 'w'), right(0, 0, 1, 'o', 'l', 'd')
	x.tells(t, two, api.OK)
	x.tells(t, one, api.OK)
	x.raise(t, 0, 2)
	x.tells(t, two, api.OK)
	x.tells(t, one, api.ErrVersion)
	x.revoke(t, 0)
	x.tells(t, two, api.ErrRevoked)
	x.tells(t, one, api.ErrRevoked)
}

// choice is something that may be wrong with what is asked: how, and what is told if it alone is.
type choice struct {
	n int
	e api.Errno
}

// bent tells bytes with a fault of their form: none, by the number 0.
func bent(b []byte, fault int) []byte {
	switch fault {
	case 1:
		return append(b, make([]byte, mostBytes+1-len(b))...)
	case 2:
		b[0] = 'Q'
	case 3:
		b[7] = 1
	case 4:
		b[15] = 0xff
	case 5:
		return b[:len(b)-1]
	case 6:
		return append(b, 0)
	}
	return b
}

// asked tells an image of slot, key and version, signed rightly or not.
func asked(slot, key int, version int64, tag int) []byte {
	b := right(slot, key, version, 'p')
	switch tag {
	case 1:
		b = by((key+1)%mostKeys, api.Image{Slot: slot, Key: key, Version: version, Payload: []byte{'p'}})
	case 2:
		b[len(b)-1] ^= 0x80
	}
	return b
}

// P13.1: each of the six points alone, any two of them at once, and all others: the first one is told. The key 3 is both none of the ring and revoked.
func TestFirstOfAll(t *testing.T) {
	x := example(t)
	x.raise(t, 0, 3)
	x.raise(t, 1, 12)
	x.revoke(t, 3)
	powers := []choice{{0, 0}, {1, api.ErrPower}}
	forms := []choice{{0, 0}, {1, api.ErrBytes}, {2, api.ErrForm}, {3, api.ErrForm}, {4, api.ErrForm}, {5, api.ErrShort}, {6, api.ErrRest}}
	slots := []choice{{0, 0}, {1, 0}, {2, api.ErrForm}, {7, api.ErrForm}}
	names := []choice{{1, 0}, {0, api.ErrKey}, {7, api.ErrKey}, {4, api.ErrKey}, {63, api.ErrKey}, {3, api.ErrKey}, {2, api.ErrRevoked}}
	tags := []choice{{0, 0}, {1, api.ErrTag}, {2, api.ErrTag}}
	versions := []choice{{12, 0}, {39, 0}, {2, api.ErrVersion}, {40, api.ErrVersion}, {mostVersion, api.ErrVersion}}
	for _, power := range powers {
		if power.n == 1 {
			x.off(t)
		}
		for _, slot := range slots {
			for _, key := range names {
				for _, tag := range tags {
					for _, version := range versions {
						for _, fault := range forms {
							b := bent(asked(slot.n, key.n, int64(version.n), tag.n), fault.n)
							x.tells(t, b, first(power, fault, slot, key, tag, version))
						}
					}
				}
			}
		}
	}
}

func first(l ...choice) api.Errno {
	for _, c := range l {
		if c.e != api.OK {
			return c.e
		}
	}
	return api.OK
}

// P13.1: without power nothing else is told, of whatever bytes and keys; with it again, all is as it was.
func TestPower(t *testing.T) {
	x := example(t)
	rows := [][]byte{nil, {}, {'Q'}, make([]byte, mostBytes+1), right(1, 1, 5), right(1, 1, 4), right(1, 2, 5), right(1, 0, 5), right(2, 1, 5), append(right(1, 1, 5), 0), by(2, api.Image{Slot: 1, Key: 1, Version: 5})}
	want := []api.Errno{api.ErrShort, api.ErrShort, api.ErrForm, api.ErrBytes, api.OK, api.ErrVersion, api.ErrRevoked, api.ErrKey, api.ErrForm, api.ErrRest, api.ErrTag}
	for range 3 {
		for i, b := range rows {
			x.tells(t, b, want[i])
		}
		x.off(t)
		for _, b := range rows {
			x.tells(t, b, api.ErrPower)
		}
		x.restore()
		x.mount(t)
	}
}

// P13.1: bytes that end at each place, that are more than an image, and that have each value at each place of the head.
func TestForms(t *testing.T) {
	x := example(t)
	b := right(1, 1, 5, []byte("a payload of some bytes")...)
	x.tells(t, b, api.OK)
	for n := range b {
		x.tells(t, b[:n], api.ErrShort)
	}
	for _, n := range []int{1, 2, 31, 32, 1000, mostBytes - len(b)} {
		x.tells(t, append(slices.Clone(b), make([]byte, n)...), api.ErrRest)
	}
	for _, n := range []int{mostBytes + 1, mostBytes + 2, 1 << 20} {
		x.tells(t, append(slices.Clone(b), make([]byte, n-len(b))...), api.ErrBytes)
		x.tells(t, make([]byte, n), api.ErrBytes)
	}
	count := map[api.Errno]int{}
	for at := range 16 {
		for v := range 256 {
			other := slices.Clone(b)
			other[at] = byte(v)
			count[x.judges(t, other)]++
			tag := tagOf(secretOf(1), other[:len(b)-32])
			copy(other[len(b)-32:], tag[:])
			count[x.judges(t, other)]++
		}
	}
	for _, e := range []api.Errno{api.OK, api.ErrForm, api.ErrShort, api.ErrRest, api.ErrKey, api.ErrRevoked, api.ErrTag, api.ErrVersion} {
		if count[e] == 0 {
			t.Errorf("none of %v", e)
		}
	}
}

// P13.1: payloads of each length over some cells, and the greatest one: an image of MaxImage bytes is handed off whole.
func TestPayloads(t *testing.T) {
	x := example(t)
	r := rand.New(rand.NewSource(1))
	for n := range 200 {
		x.tells(t, right(0, 1, 9, row(r, n)...), api.OK)
	}
	for _, n := range []int{1 << 16, mostPayload - 1, mostPayload} {
		x.tells(t, right(0, 1, 9, row(r, n)...), api.OK)
	}
	x.tells(t, right(0, 1, 9, row(r, mostPayload+1)...), api.ErrBytes)
}

// P13.1: of each number of slots the last one, and one more; each has its own value.
func TestSlots(t *testing.T) {
	for slots := 1; slots <= mostSlots; slots++ {
		x := made(t, api.Config{Cells: slots + 3, Slots: slots, Fuses: 4, Step: 10, Keys: 2, Erases: 3}, 0, 1)
		for slot := range slots {
			x.raise(t, slot, int64(3+4*slot))
		}
		for slot := range mostSlots {
			value := int64(3 + 4*slot)
			if slot >= slots {
				x.tells(t, right(slot, 0, value), api.ErrForm)
				x.tells(t, right(slot, 0, 49), api.ErrForm)
				continue
			}
			x.tells(t, right(slot, 0, value-1), api.ErrVersion)
			x.tells(t, right(slot, 1, value), api.OK)
			x.tells(t, right(slot, 0, 49), api.OK)
			x.tells(t, right(slot, 1, 50), api.ErrVersion)
		}
	}
}

// P13.1: the loader's number, in the log behind those of the slots, is no slot's: an image can't name it.
func TestLoadersNumberIsNoSlot(t *testing.T) {
	x := made(t, api.Config{Cells: 6, Slots: 2, Fuses: 1, Step: 9, Keys: 1, Erases: 3}, 0)
	if e := x.store.Activate(7); e != api.OK {
		t.Fatal(e)
	}
	for v := range int64(19) {
		x.tells(t, right(2, 0, v), api.ErrForm)
	}
	x.tells(t, right(1, 0, 0), api.OK)
}

// P13.1: keys that the ring has and the chip does not, that the chip has and the ring does not, that both have, and neither.
func TestKeys(t *testing.T) {
	for _, n := range []int{1, 2, 4, 63, 64} {
		for _, known := range [][]int{nil, {0}, {n - 1}, all(mostKeys), all(n), {63}, {n % mostKeys}, {0, 2, 62}} {
			x := made(t, api.Config{Cells: 4, Slots: 1, Fuses: 1, Step: 2, Keys: n}, known...)
			for key := range mostKeys {
				want := api.ErrKey
				if key < n && slices.Contains(known, key) {
					want = api.OK
				}
				x.tells(t, right(0, key, 1), want)
				x.tells(t, right(0, key, 1)[:47], api.ErrShort)
			}
		}
	}
}

// P13.1: the last of the config's keys, and one more, which the ring has too.
func TestLastKey(t *testing.T) {
	for n := 1; n < mostKeys; n++ {
		x := made(t, api.Config{Cells: 4, Slots: 1, Fuses: 1, Step: 1, Keys: n}, n-1, n)
		x.tells(t, right(0, n-1, 1), api.OK)
		x.tells(t, right(0, n, 1), api.ErrKey)
		x.revoke(t, n-1)
		x.tells(t, right(0, n-1, 1), api.ErrRevoked)
		x.tells(t, right(0, n, 1), api.ErrKey)
	}
}

// P13.1, P13.2: keys that are revoked one by one, with tags that are right and such as are wrong; all others stay as they were.
func TestRevoked(t *testing.T) {
	x := made(t, api.Config{Cells: 4, Slots: 1, Fuses: 2, Step: 3, Keys: mostKeys}, all(mostKeys)...)
	r := rand.New(rand.NewSource(2))
	for _, gone := range r.Perm(mostKeys) {
		x.tells(t, right(0, gone, 8), api.OK)
		x.revoke(t, gone)
		for key := range mostKeys {
			want, wrong := api.OK, api.ErrTag
			if slices.Contains(x.revoked, key) {
				want, wrong = api.ErrRevoked, api.ErrRevoked
			}
			x.tells(t, asked(0, key, 8, 0), want)
			x.tells(t, asked(0, key, 8, 1), wrong)
			x.tells(t, asked(0, key, 9, 2), wrong)
		}
	}
}

// P13.1: a tag with one bit turned at each of its places, and bytes with one turned ahead of it.
func TestBitsTurned(t *testing.T) {
	x := example(t)
	for _, payload := range [][]byte{nil, {7}, []byte("some more bytes than a block of them has, which are sixty-four")} {
		b := right(1, 1, 5, payload...)
		tag := 8 * (len(b) - 32)
		for bit := range 8 * len(b) {
			other := turned(b, bit)
			if e := x.judges(t, other); e == api.OK || bit >= tag && e != api.ErrTag || bit >= 128 && e != api.ErrTag {
				t.Errorf("bit %d: %d", bit, e)
			}
		}
	}
}

// P13.1: tags of other secrets, of other bytes, and such as are none.
func TestTags(t *testing.T) {
	x := made(t, api.Config{Cells: 4, Slots: 1, Fuses: 2, Step: 3, Keys: 10}, all(10)...)
	b := covered(api.Image{Key: 3, Version: 4, Payload: []byte("payload")})
	lay := func(tag api.Hash) []byte { return append(slices.Clone(b), tag[:]...) }
	for k := range mostKeys {
		want := api.ErrTag
		if k == 3 {
			want = api.OK
		}
		x.tells(t, lay(tagOf(secretOf(k), b)), want)
	}
	is := tagOf(secretOf(3), b)
	back := is
	slices.Reverse(back[:])
	for _, tag := range []api.Hash{{}, back, sha256.Sum256(b), tagOf(nil, b), tagOf(secretOf(3)[:2], b), tagOf(secretOf(3), b[1:]), tagOf(secretOf(3), b[:len(b)-1]), tagOf(secretOf(3), b[16:]), tagOf(secretOf(3), lay(is)), tagOf(secretOf(3), nil)} {
		x.tells(t, lay(tag), api.ErrTag)
	}
	for at := range is {
		for v := range 256 {
			tag := is
			tag[at] = byte(v)
			if e := x.judges(t, lay(tag)); (e == api.OK) != (tag == is) {
				t.Fatalf("%02x at %d of the tag: %d", v, at, e)
			}
		}
	}
}

// P13.1: an image that names another key than the one that signed it, each with each.
func TestEachKeyItsOwn(t *testing.T) {
	x := made(t, api.Config{Cells: 4, Slots: 1, Fuses: 2, Step: 3, Keys: mostKeys}, all(mostKeys)...)
	for key := range mostKeys {
		for signer := range mostKeys {
			want := api.ErrTag
			if key == signer {
				want = api.OK
			}
			x.tells(t, by(signer, api.Image{Key: key, Version: 1}), want)
		}
	}
}

// P13.1: versions around each value that a small counter may have, and around the last one.
func TestVersions(t *testing.T) {
	x := made(t, api.Config{Cells: 6, Slots: 2, Fuses: 3, Step: 4, Keys: 1, Erases: 9}, 0)
	for value := int64(0); value <= 15; value++ {
		x.raise(t, 1, value)
		for v := range int64(20) {
			want := api.ErrVersion
			if value <= v && v <= 15 {
				want = api.OK
			}
			x.tells(t, right(1, 0, v), want)
			x.tells(t, right(0, 0, min(v, 15)), api.OK)
		}
		for _, v := range []int64{255, 256, 1 << 16, 1<<31 - 1, 1 << 31, mostVersion - 1, mostVersion} {
			x.tells(t, right(1, 0, v), api.ErrVersion)
			x.tells(t, right(0, 0, v), api.ErrVersion)
		}
	}
}

// P13.1: versions around a value, and around the last one, of the greatest counters that there are.
func TestGreatVersions(t *testing.T) {
	for _, c := range [][2]int{{1, 1}, {64, 65536}, {64, 1}, {1, 65536}, {63, 65535}} {
		x := made(t, api.Config{Cells: 256, Slots: 1, Fuses: c[0], Step: c[1], Keys: 1}, 0)
		last := int64(c[0])*int64(c[1]) + int64(c[1]) - 1
		for _, value := range []int64{0, 1, last / 2, last - 1, last} {
			if value < x.values[0] {
				continue
			}
			x.raise(t, 0, value)
			if value > 0 {
				x.tells(t, right(0, 0, value-1), api.ErrVersion)
			}
			x.tells(t, right(0, 0, value), api.OK)
			x.tells(t, right(0, 0, last), api.OK)
			x.tells(t, right(0, 0, last+1), api.ErrVersion)
			x.tells(t, right(0, 0, mostVersion), api.ErrVersion)
		}
	}
}

// record is a cell as chapter 6 has it: twelve bytes, their sum as the library reckons it, and the complement of all of them.
func record(kind, slot byte, n int64) api.Cell {
	var c api.Cell
	b := binary.LittleEndian.AppendUint64([]byte{kind, slot, 0, 0}, uint64(n))
	b = binary.LittleEndian.AppendUint32(b, crc32.ChecksumIEEE(b))
	for i, v := range b {
		c[i], c[16+i] = v, 255-v
	}
	return c
}

// laid is a bench on a chip that holds what somebody else has laid.
func laid(t *testing.T, g api.Config, lay func(*api.Chip), known ...int) *bench {
	t.Helper()
	c, e := chip.New(g)
	if e != api.OK {
		t.Fatal(e)
	}
	s := c.State()
	lay(&s)
	if c, e = chip.Lay(g, s); e != api.OK {
		t.Fatal(e)
	}
	return on(t, c, known...)
}

// P13.1, W3: on chips that somebody else has laid: fuses without a log hold the version up, a log without fuses too, and of a number beyond the last one no version may be.
func TestLaidChips(t *testing.T) {
	g := api.Config{Cells: 6, Slots: 2, Fuses: 3, Step: 10, Keys: 4, Erases: 5}
	tells := func(x *bench, value int64) {
		t.Helper()
		x.values[1] = value
		for _, v := range []int64{0, 1, 9, 10, 19, 20, 24, 25, 26, 38, 39, 40, 41, 1 << 31, mostVersion} {
			want := api.ErrVersion
			if value <= v && v <= 39 {
				want = api.OK
			}
			x.tells(t, right(1, 0, v), want)
			x.tells(t, right(1, 3, v), api.ErrRevoked)
			x.tells(t, right(1, 4, v), api.ErrKey)
			x.tells(t, right(0, 0, min(v, 39)), api.OK)
		}
	}
	revoked := func(s *api.Chip) { s.Blown[6+3] = true }
	for _, n := range []int64{1, 20, 25, 39, 40, 41, 1 << 31, 1 << 32, 1<<32 + 5, 1 << 62} {
		x := laid(t, g, func(s *api.Chip) {
			revoked(s)
			s.Pages[1][0], s.Pages[1][1] = record(1, 0, 1), record(2, 1, n)
			s.Blown[3] = true
		}, 0, 3, 4)
		x.revoked = []int{3}
		tells(x, max(n, 10))
	}
	for i, n := range []int64{0, 10, 20, 30} {
		x := laid(t, g, func(s *api.Chip) {
			revoked(s)
			for f := range i {
				s.Blown[5-f] = true
			}
		}, 0, 3, 4)
		x.revoked = []int{3}
		tells(x, n)
	}
}

// P13.1, R1: on flash full of anything, with any fuses blown, Check answers by the words.
func TestAnyChips(t *testing.T) {
	r := rand.New(rand.NewSource(3))
	g := api.Config{Cells: 5, Slots: 2, Fuses: 2, Step: 2, Keys: 3, Erases: 1, Area: 1}
	for range 300 {
		x := laid(t, g, func(s *api.Chip) {
			for p := range s.Pages {
				for i := range s.Pages[p] {
					s.Pages[p][i] = api.Cell(row(r, 32))
				}
			}
			for i := range s.Blown {
				s.Blown[i] = r.Intn(2) == 0
			}
			s.Erases[r.Intn(4)] = r.Intn(4)
		}, 0, 1, 2)
		for i, is := range x.chip.State().Blown {
			if is && i < 4 {
				x.values[i/2] += 2
			} else if is {
				x.revoked = append(x.revoked, i-4)
			}
		}
		for range 30 {
			x.judges(t, asked(r.Intn(3), r.Intn(4), int64(r.Intn(8)), r.Intn(8)))
			x.judges(t, row(r, r.Intn(100)))
		}
	}
}

// some are rows of bytes of each kind of answer over the chapter's chip, in the order of their numbers: OK, 4 to 7, 13 to 16.
func some() [][]byte {
	return [][]byte{
		right(1, 1, 5, []byte("payload")...), make([]byte, mostBytes+1), right(2, 1, 5), nil, append(right(1, 1, 5), 0),
		right(1, 7, 5), right(1, 2, 5), by(2, api.Image{Slot: 1, Key: 1, Version: 5}), right(1, 1, 4),
	}
}

func someWant() []api.Errno {
	return []api.Errno{api.OK, api.ErrBytes, api.ErrForm, api.ErrShort, api.ErrRest, api.ErrKey, api.ErrRevoked, api.ErrTag, api.ErrVersion}
}

// P13.1: no act is done and nothing is changed, whatever the answer, also on a chip whose power goes at the next act: that cut still waits.
func TestNothingDone(t *testing.T) {
	for _, mask := range [][]byte{nil, {0xff}, {0x0f, 0xf0}} {
		x := example(t)
		was, acts := x.chip.State(), x.chip.Acts()
		x.chip.Cut(0, mask)
		for i, b := range some() {
			x.tells(t, b, someWant()[i])
			if !sameChip(x.chip.State(), was) || x.chip.Acts() != acts || x.chip.Out() {
				t.Fatalf("Check(%s) has done something", short(b))
			}
		}
		if _, e := x.store.Bump(0); e != api.ErrPower || x.chip.Acts() != acts+1 {
			t.Fatalf("the cut doesn't wait any more: %v", e)
		}
		x.out = true
		was = x.chip.State()
		for _, b := range some() {
			x.tells(t, b, api.ErrPower)
			if !sameChip(x.chip.State(), was) || x.chip.Acts() != acts+1 || !x.chip.Out() {
				t.Fatalf("Check(%s) without power has done something", short(b))
			}
		}
	}
}

// P13.1: it keeps nothing: an answer is the same again, behind all others.
func TestAskedAgain(t *testing.T) {
	x := example(t)
	for i := range some() {
		for j, b := range some() {
			x.tells(t, some()[i], someWant()[i])
			x.tells(t, b, someWant()[j])
		}
	}
	if !slices.Equal(x.ring.Numbers(), []int{1, 2, 7}) {
		t.Errorf("the ring has %v", x.ring.Numbers())
	}
	if v, e := x.store.Read(1); v != 5 || e != api.OK {
		t.Errorf("the slot 1: %d, %v", v, e)
	}
}

// P13.1: a chip that is worn, and a counter that can't go on, still have their images started.
func TestWornAndSaturated(t *testing.T) {
	x := made(t, api.Config{Cells: 4, Slots: 1, Fuses: 4, Step: 4, Keys: 1}, 0)
	for v := int64(1); v <= 6; v++ {
		x.raise(t, 0, v)
	}
	if _, e := x.store.Bump(0); e != api.ErrWorn {
		t.Fatalf("not worn: %v", e)
	}
	x.tells(t, right(0, 0, 5), api.ErrVersion)
	x.tells(t, right(0, 0, 6), api.OK)
	x.tells(t, right(0, 0, 19), api.OK)
	x = made(t, api.Config{Cells: 4, Slots: 1, Fuses: 4, Step: 4, Keys: 1}, 0)
	x.raise(t, 0, 19)
	x.tells(t, right(0, 0, 18), api.ErrVersion)
	x.tells(t, right(0, 0, 19), api.OK)
	x.tells(t, right(0, 0, 20), api.ErrVersion)
}

// P13.2: what image.Make makes with a secret of the ring is handed off just if its slot and key are the chip's, the key isn't revoked and the version may be; and it is what was made.
func TestMade(t *testing.T) {
	r := rand.New(rand.NewSource(4))
	count := map[bool]int{}
	for range 60 {
		g := api.Config{Slots: 1 + r.Intn(8), Fuses: 1 + r.Intn(4), Step: 1 + r.Intn(6), Keys: 1 + r.Intn(12), Erases: 20}
		g.Cells = g.Slots + 3 + r.Intn(4)
		known := r.Perm(16)[:1+r.Intn(16)]
		x := made(t, g, known...)
		for range r.Intn(6) {
			slot := r.Intn(g.Slots)
			x.raise(t, slot, x.values[slot]+r.Int63n(x.last()-x.values[slot]+1))
			x.revoke(t, r.Intn(g.Keys))
		}
		for range 60 {
			key := known[r.Intn(len(known))]
			im := api.Image{Slot: r.Intn(min(8, g.Slots+1)), Key: key, Version: r.Int63n(x.last() + 3), Payload: row(r, r.Intn(50))}
			b, e := image.Make(secretOf(key), im)
			if e != api.OK {
				t.Fatal(e)
			}
			may := im.Slot < g.Slots && key < g.Keys && !slices.Contains(x.revoked, key) && x.values[im.Slot] <= im.Version && im.Version <= x.last()
			got, e := gate.Check(x.store, x.ring, b)
			im.Tag = mac.Of(secretOf(key), image.Body(b))
			if (e == api.OK) != may || may && !same(got, im) {
				t.Fatalf("Check of %+v: %+v, %d, may be: %v", im, got, e, may)
			}
			x.judges(t, b)
			count[may]++
		}
	}
	if count[true] < 300 || count[false] < 300 {
		t.Errorf("%v", count)
	}
}

// P13.2: whatever is handed off was signed: of images with anything done to them just those come through that are signed.
func TestAnyBytes(t *testing.T) {
	r := rand.New(rand.NewSource(5))
	x := example(t)
	count := map[api.Errno]int{}
	for range 20000 {
		b := asked(r.Intn(3), []int{1, 1, 1, 2, 0, 7}[r.Intn(6)], []int64{4, 5, 20, 39, 40}[r.Intn(5)], r.Intn(6))
		switch r.Intn(6) {
		case 0:
			b = turned(b, r.Intn(8*len(b)))
		case 1:
			b = b[:r.Intn(len(b)+1)]
		case 2:
			b = append(b, row(r, 1+r.Intn(40))...)
		case 3:
			b[r.Intn(16)] = byte(r.Intn(256))
		}
		e := x.judges(t, b)
		count[e]++
		if n := len(b) - 32; e == api.OK && tagOf(secretOf(int(b[6])), b[:n]) != api.Hash(b[n:]) {
			t.Fatalf("Check(%s): handed off", short(b))
		}
	}
	for _, e := range []api.Errno{api.OK, api.ErrForm, api.ErrShort, api.ErrRest, api.ErrKey, api.ErrRevoked, api.ErrTag, api.ErrVersion} {
		if count[e] < 50 {
			t.Errorf("%d of %v", count[e], e)
		}
	}
}

// fleeting are images of each slot, key and version that a small chip may have, and some more.
func fleeting() [][]byte {
	var l [][]byte
	for slot := range 2 {
		for key := range 3 {
			for v := range int64(10) {
				l = append(l, right(slot, key, v))
			}
		}
	}
	return l
}

// did does one thing of a script at random, with or without a cut, and takes over what the store tells behind it.
func (x *bench) did(t *testing.T, r *rand.Rand) {
	t.Helper()
	if r.Intn(2) == 0 {
		x.chip.Cut(r.Intn(4), row(r, r.Intn(3)))
	}
	switch slot := r.Intn(2); r.Intn(6) {
	case 0:
		x.store.Revoke(r.Intn(3))
	case 1:
		x.store.BumpTo(slot, r.Int63n(9))
	default:
		x.store.Bump(slot)
	}
	x.chip.Cut(-1, nil)
	if x.out = x.chip.Out(); x.out {
		x.tells(t, right(0, 0, 8), api.ErrPower)
		x.restore()
		x.mount(t)
	}
	x.revoked = nil
	for k := range 3 {
		if is, _ := x.store.Revoked(k); is {
			x.revoked = append(x.revoked, k)
		}
	}
	for slot := range 2 {
		x.values[slot], _ = x.store.Read(slot)
	}
}

// P13.2: once an image is refused for its version or for its key, it is refused for ever, whatever is done, and wherever the power goes.
func TestNeverAgain(t *testing.T) {
	r := rand.New(rand.NewSource(6))
	images := fleeting()
	for range 40 {
		x := made(t, api.Config{Cells: 6, Slots: 2, Fuses: 2, Step: 3, Keys: 3, Erases: 40}, 0, 1, 2)
		gone := map[int]api.Errno{}
		for range 25 {
			for i, b := range images {
				e := x.judges(t, b)
				if gone[i] != api.OK && e == api.OK || gone[i] == api.ErrRevoked && e != api.ErrRevoked {
					t.Fatalf("%s was refused for %d, and now: %d", short(b), gone[i], e)
				}
				gone[i] = e
			}
			x.did(t, r)
		}
	}
}

// P13.2: once a counter was raised, no image of a lesser version is handed off, also behind a cut at each act of the next bump.
func TestRaised(t *testing.T) {
	for value := int64(1); value <= 8; value++ {
		for act := range 4 {
			for _, mask := range [][]byte{nil, {0xff}, {0x55}, {0x0f}} {
				x := made(t, api.Config{Cells: 4, Slots: 1, Fuses: 2, Step: 3, Keys: 1, Erases: 5}, 0)
				x.raise(t, 0, value)
				x.chip.Cut(act, mask)
				x.store.BumpTo(0, value+1)
				x.chip.Cut(-1, nil)
				x.chip.Restore()
				x.mount(t)
				for v := range value {
					if got, e := gate.Check(x.store, x.ring, right(0, 0, v)); e != api.ErrVersion || !same(got, api.Image{}) {
						t.Fatalf("the version %d behind a bump to %d: %d", v, value, e)
					}
				}
				x.raise(t, 0, value) // no act: it is there
				if now, _ := x.store.Read(0); now > value {
					x.values[0] = now
				}
				x.judges(t, right(0, 0, value))
				x.tells(t, right(0, 0, 8), api.OK)
			}
		}
	}
}

// P13.2: a Revoke at which the power went has revoked the key, or has not: once it is refused, it stays so.
func TestRevokedHalf(t *testing.T) {
	for _, mask := range [][]byte{nil, {0}, {1}, {2}, {0xff}, {0xfe}} {
		x := made(t, api.Config{Cells: 4, Slots: 1, Fuses: 1, Step: 3, Keys: 2}, 0, 1)
		x.chip.Cut(0, mask)
		if e := x.store.Revoke(1); e != api.ErrPower {
			t.Fatal(e)
		}
		x.out = true
		x.tells(t, right(0, 1, 0), api.ErrPower)
		x.restore()
		x.mount(t)
		want := api.OK
		if len(mask) > 0 && mask[0]&1 == 1 {
			want, x.revoked = api.ErrRevoked, []int{1}
		}
		for range 3 {
			x.tells(t, right(0, 1, 0), want)
			x.tells(t, right(0, 0, 0), api.OK)
			x.mount(t)
		}
	}
}

// room tells bytes with spare room behind them, and all of it.
func room(b []byte) (in, all []byte) {
	all = slices.Concat(b, bytes.Repeat([]byte{0xa5}, 300))
	return all[:len(b)], all
}

// spoil turns all bytes of a row, and those of its spare room.
func spoil(b []byte) {
	all := b[:cap(b)]
	for i := range all {
		all[i] ^= 0x5a
	}
}

// P13.3: the bytes that are handed in stay as they were, also in the room behind their length, whatever the answer.
func TestBytesUnchanged(t *testing.T) {
	x := example(t)
	for i, b := range some() {
		in, all := room(b)
		was := slices.Clone(all)
		x.tells(t, in, someWant()[i])
		if !bytes.Equal(all, was) {
			t.Fatalf("Check(%s): changed", short(b))
		}
	}
	r := rand.New(rand.NewSource(7))
	for n := range 140 {
		in, all := room(right(1, 1, 6, row(r, n)...))
		was := slices.Clone(all)
		x.tells(t, in, api.OK)
		if !bytes.Equal(all, was) {
			t.Fatalf("%d bytes: changed", n)
		}
	}
}

// P13.3: a payload that comes out is its owner's, spare room too: neither the bytes that came in nor another answer shares any.
func TestPayloadApart(t *testing.T) {
	x := example(t)
	r := rand.New(rand.NewSource(8))
	for _, n := range []int{0, 1, 31, 32, 33, 1000, mostPayload} {
		payload := row(r, n)
		in, all := room(right(1, 1, 5, payload...))
		was := slices.Clone(all)
		one, e := gate.Check(x.store, x.ring, in)
		other, e2 := gate.Check(x.store, x.ring, in)
		if e != api.OK || e2 != api.OK {
			t.Fatal(e, e2)
		}
		spoil(one.Payload)
		if !bytes.Equal(all, was) || !bytes.Equal(other.Payload, payload) {
			t.Fatalf("%d bytes: what came out was written over, and seen elsewhere", n)
		}
		x.tells(t, in, api.OK)
		spoil(in)
		if !bytes.Equal(other.Payload, payload) {
			t.Fatalf("%d bytes: what came in was written over, and seen in an answer", n)
		}
		if e := x.judges(t, in); e == api.OK {
			t.Fatalf("%d bytes: spoilt, and handed off", n)
		}
	}
}

// R4: what a gate answers hangs on this chip and this ring: others beside them aren't seen.
func TestOthersBeside(t *testing.T) {
	x, y := example(t), made(t, api.Config{Cells: 8, Slots: 3, Fuses: 3, Step: 20, Keys: 8, Erases: 5}, 0, 1, 7)
	y.raise(t, 1, 70)
	y.revoke(t, 1)
	for _, b := range [][]byte{right(1, 1, 5), right(1, 7, 5), right(1, 0, 70), right(2, 7, 79), right(1, 1, 39), right(0, 2, 0)} {
		x.judges(t, b)
		y.judges(t, b)
	}
	x.tells(t, right(1, 1, 5), api.OK)
	y.tells(t, right(1, 1, 70), api.ErrRevoked)
	y.tells(t, right(1, 7, 70), api.OK)
	x.ring, x.known = y.ring, y.known
	x.tells(t, right(1, 1, 5), api.OK)
	x.tells(t, right(1, 2, 5), api.ErrKey)
	x.tells(t, right(1, 0, 5), api.OK)
	y.off(t)
	x.tells(t, right(1, 1, 5), api.OK)
	y.tells(t, right(1, 7, 70), api.ErrPower)
}

// R4: an answer hangs on the arguments alone, whoever else is asking at that time.
func TestManyAtOneTime(t *testing.T) {
	x := example(t)
	rows, want := some(), someWant()
	var all sync.WaitGroup
	var bad [8]bool
	for i := range bad {
		all.Go(func() {
			for n := range 90 {
				j := (n + i) % len(rows)
				got, e := gate.Check(x.store, x.ring, rows[j])
				bad[i] = bad[i] || e != want[j] || e == api.OK && string(got.Payload) != "payload" || e != api.OK && !same(got, api.Image{})
			}
		})
	}
	all.Wait()
	if bad != [8]bool{} {
		t.Errorf("%v", bad)
	}
}

// The errors that come here and the limits have the numbers that the document gives.
func TestNumbers(t *testing.T) {
	got := [9]api.Errno{api.ErrBytes, api.ErrForm, api.ErrShort, api.ErrRest, api.ErrPower, api.ErrKey, api.ErrRevoked, api.ErrTag, api.ErrVersion}
	if got != [9]api.Errno{4, 5, 6, 7, 8, 13, 14, 15, 16} || api.OK != 0 {
		t.Errorf("errors: %d", got)
	}
	if got := [3]int{api.MaxImage, api.MaxSlots, api.MaxKeys}; got != [3]int{mostBytes, mostSlots, mostKeys} || mostVersion != math.MaxUint32 {
		t.Errorf("limits: %d", got)
	}
}
