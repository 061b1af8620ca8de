package image_test

import (
	"bytes"
	"crypto/hmac"
	"crypto/sha256"
	"encoding/binary"
	"encoding/hex"
	"errors"
	"fmt"
	"math"
	"math/rand"
	"slices"
	"strings"
	"sync"
	"testing"

	"portcullis/api"
	"portcullis/image"
	"portcullis/mac"
)

// The numbers of the document, written out: an image's bytes in all, those of one without payload, and the greatest payload.
const (
	mostBytes   = 524288
	bareBytes   = 48
	mostPayload = 524240
)

func row(r *rand.Rand, n int) []byte {
	b := make([]byte, n)
	r.Read(b)
	return b
}

// tagOf is the library's HMAC-SHA-256, which the program itself may not lean on.
func tagOf(secret, b []byte) []byte {
	h := hmac.New(sha256.New, secret)
	h.Write(b)
	return h.Sum(nil)
}

// covered is what stands ahead of an image's tag, as the chapter's table has it.
func covered(x api.Image) []byte {
	b := []byte{0x50, 0x43, 0x55, 0x4c, 0x01, byte(x.Slot), byte(x.Key), 0x00}
	b = binary.LittleEndian.AppendUint32(b, uint32(x.Version))
	b = binary.LittleEndian.AppendUint32(b, uint32(len(x.Payload)))
	return append(b, x.Payload...)
}

// signed is an image with the tag of a secret.
func signed(secret []byte, x api.Image) []byte {
	b := covered(x)
	return append(b, tagOf(secret, b)...)
}

// judged is what Parse must answer to b, as the chapter's words have it: gone through byte by byte, and each byte asked for ahead of what it says.
func judged(b []byte) (api.Image, api.Errno, int) {
	var none api.Image
	if len(b) > mostBytes {
		return none, api.ErrBytes, mostBytes
	}
	may := [8][]byte{{'P'}, {'C'}, {'U'}, {'L'}, {1}, upTo(7), upTo(63), {0}}
	for at := 0; at < 16; at++ {
		if len(b) == at {
			return none, api.ErrShort, at
		}
		if at < 8 && !slices.Contains(may[at], b[at]) {
			return none, api.ErrForm, at
		}
	}
	n := int(b[12]) + 1<<8*int(b[13]) + 1<<16*int(b[14]) + 1<<24*int(b[15])
	if 48+n > mostBytes {
		return none, api.ErrForm, 12
	}
	if len(b) < 48+n {
		return none, api.ErrShort, len(b)
	}
	if len(b) > 48+n {
		return none, api.ErrRest, 48 + n
	}
	version := int64(b[8]) + 1<<8*int64(b[9]) + 1<<16*int64(b[10]) + 1<<24*int64(b[11])
	return api.Image{Slot: int(b[5]), Key: int(b[6]), Version: version, Payload: b[16 : 16+n], Tag: api.Hash(b[16+n:])}, api.OK, 0
}

func upTo(last byte) []byte {
	var l []byte
	for v := byte(0); v <= last; v++ {
		l = append(l, v)
	}
	return l
}

func same(a, b api.Image) bool {
	return a.Slot == b.Slot && a.Key == b.Key && a.Version == b.Version && bytes.Equal(a.Payload, b.Payload) && a.Tag == b.Tag
}

func empty(x api.Image) bool { return same(x, api.Image{}) }

// short tells bytes for a message.
func short(b []byte) string {
	if len(b) > 80 {
		return fmt.Sprintf("%x.. (%d bytes)", b[:80], len(b))
	}
	return fmt.Sprintf("%x", b)
}

// makes holds Make's answer against the words.
func makes(t *testing.T, secret []byte, x api.Image) []byte {
	t.Helper()
	b, e := image.Make(secret, x)
	if want := signed(secret, x); e != api.OK || !bytes.Equal(b, want) {
		t.Fatalf("Make(%s, %d %d %d %s): %s, %v, want %s", short(secret), x.Slot, x.Key, x.Version, short(x.Payload), short(b), e, short(want))
	}
	return b
}

func refuses(t *testing.T, secret []byte, x api.Image, want api.Errno) {
	t.Helper()
	if b, e := image.Make(secret, x); e != want || len(b) != 0 {
		t.Fatalf("Make(%s, %d %d %d %s): %s, %v, want nothing and %v", short(secret), x.Slot, x.Key, x.Version, short(x.Payload), short(b), e, want)
	}
}

// takes holds Parse's answer to an image against what that is.
func takes(t *testing.T, b []byte, want api.Image) {
	t.Helper()
	if x, err := image.Parse(b); err != nil || !same(x, want) {
		t.Fatalf("Parse(%s): %+v, %v, want %+v", short(b), x, err, want)
	}
}

// wrong holds Parse's answer to bytes that are no image against an error and its place.
func wrong(t *testing.T, b []byte, e api.Errno, at int) {
	t.Helper()
	x, err := image.Parse(b)
	w, ok := err.(*image.Wrong)
	if !ok || w == nil || *w != (image.Wrong{E: e, At: at}) || !empty(x) {
		t.Fatalf("Parse(%s): %+v, %v, want %d at %d", short(b), x, err, e, at)
	}
}

// parses holds Parse's answer to any bytes against the words, and tells the error's number.
func parses(t *testing.T, b []byte) api.Errno {
	t.Helper()
	x, e, at := judged(b)
	if e == api.OK {
		takes(t, b, x)
	} else {
		wrong(t, b, e, at)
	}
	return e
}

func unhex(t *testing.T, text string) []byte {
	t.Helper()
	b, err := hex.DecodeString(strings.ReplaceAll(text, " ", ""))
	if err != nil {
		t.Fatal(err)
	}
	return b
}

// example is the first one of the chapter.
func example(t *testing.T) []byte {
	t.Helper()
	head := unhex(t, "50 43 55 4c 01 01 02 00 02 01 00 00 01 00 00 00 aa")
	return append(head, tagOf(nil, head)...)
}

// P11.1, P11.2, P11.3: the examples of the chapter.
func TestExamples(t *testing.T) {
	x := api.Image{Slot: 1, Key: 2, Version: 258, Payload: []byte{0xaa}}
	b, e := image.Make(nil, x)
	if e != api.OK || !bytes.Equal(b, example(t)) {
		t.Errorf("Make: %x, %v", b, e)
	}
	x.Tag = api.Hash(b[17:])
	takes(t, b, x)

	wrong(t, nil, api.ErrShort, 0)
	wrong(t, []byte{}, api.ErrShort, 0)
	wrong(t, []byte{0x50, 0x43}, api.ErrShort, 2)
	wrong(t, []byte{0x51}, api.ErrForm, 0)
	for _, c := range []struct {
		at    int
		v     byte
		e     api.Errno
		place int
	}{
		{4, 0x02, api.ErrForm, 4}, {5, 0x08, api.ErrForm, 5}, {6, 0x40, api.ErrForm, 6}, {7, 0x01, api.ErrForm, 7},
		{15, 0xff, api.ErrForm, 12}, {12, 0x00, api.ErrRest, 48}, {12, 0x02, api.ErrShort, 49},
	} {
		b := example(t)
		b[c.at] = c.v
		wrong(t, b, c.e, c.place)
	}

	refuses(t, nil, api.Image{Slot: 8}, api.ErrRange)
	refuses(t, nil, api.Image{Key: 64}, api.ErrRange)
	refuses(t, nil, api.Image{Version: -1}, api.ErrRange)
	refuses(t, nil, api.Image{Version: 1 << 32}, api.ErrRange)
	refuses(t, nil, api.Image{Payload: make([]byte, 524241)}, api.ErrBytes)
	if b := makes(t, nil, api.Image{Payload: make([]byte, 524240)}); len(b) != 524288 {
		t.Errorf("the greatest image: %d bytes", len(b))
	}
	if len(image.Body(make([]byte, 31))) != 0 {
		t.Error("Body of 31 bytes")
	}
}

// P11.1: a tag that was reckoned elsewhere: of the chapter's first example, HMAC-SHA-256 without a secret.
func TestTagWrittenOut(t *testing.T) {
	want := "776769994e5e14ff9f81f80078fb4be1aa8630bad08a9f0d2b5c784df8cf9bcc"
	b := makes(t, nil, api.Image{Slot: 1, Key: 2, Version: 258, Payload: []byte{0xaa}})
	if got := hex.EncodeToString(b[17:]); got != want {
		t.Errorf("%s, want %s", got, want)
	}
}

// P11.1: each slot with each key and versions at the edges of each byte.
func TestMakeEachHead(t *testing.T) {
	for slot := range 8 {
		for key := range 64 {
			for _, version := range []int64{0, 1, 255, 256, 65535, 65536, 1<<24 - 1, 1 << 24, 1<<31 - 1, 1 << 31, 1<<32 - 1, 0x04030201} {
				makes(t, []byte("k"), api.Image{Slot: slot, Key: key, Version: version, Payload: []byte{1, 2}})
			}
		}
	}
}

// P11.1: a slot, a key or a version that may not be, each alone and with others, also ones that would wrap round to such as may be; no secret and no payload makes it right.
func TestMakeRange(t *testing.T) {
	ints := func(last int) (good, bad []int) {
		return []int{0, 1, last}, []int{-1, -2, last + 1, last + 2, 255, 256, 257, 1 << 16, 1<<31 - 1, 1 << 31, 1 << 32, 1<<32 + 1, math.MaxInt, math.MinInt, math.MinInt + 1, -256, -1 << 32}
	}
	slots, badSlots := ints(7)
	keys, badKeys := ints(63)
	versions := []int64{0, 1, 1<<32 - 1}
	badVersions := []int64{-1, -2, 1 << 32, 1<<32 + 1, 1 << 33, 1 << 40, 1 << 62, math.MaxInt64, math.MinInt64, math.MinInt64 + 1, -1 << 32}
	all := func(a, b []int) []int { return slices.Concat(a, b) }
	for _, slot := range all(slots, badSlots) {
		for _, key := range all(keys, badKeys) {
			for _, version := range slices.Concat(versions, badVersions) {
				x := api.Image{Slot: slot, Key: key, Version: version, Payload: []byte{7}}
				if slices.Contains(slots, slot) && slices.Contains(keys, key) && slices.Contains(versions, version) {
					makes(t, []byte("secret"), x)
				} else {
					refuses(t, []byte("secret"), x, api.ErrRange)
				}
			}
		}
	}
}

// P11.1: payloads of none, nil or not, of each length up to 300 and of the greatest ones; one byte more is ErrBytes.
func TestMakePayloads(t *testing.T) {
	r := rand.New(rand.NewSource(1))
	if a, b := makes(t, []byte{1}, api.Image{}), makes(t, []byte{1}, api.Image{Payload: []byte{}}); len(a) != bareBytes || !bytes.Equal(a, b) {
		t.Errorf("no payload: %x, %x", a, b)
	}
	for n := range 300 {
		makes(t, []byte{1}, api.Image{Slot: n % 8, Key: n % 64, Version: int64(n), Payload: row(r, n)})
	}
	for _, n := range []int{4096, 65535, 65536, mostPayload - 1, mostPayload} {
		if b := makes(t, []byte{1}, api.Image{Payload: row(r, n)}); len(b) != n+bareBytes {
			t.Errorf("payload of %d: %d bytes", n, len(b))
		}
	}
	for _, n := range []int{mostPayload + 1, mostPayload + 2, mostBytes - 16, mostBytes, mostBytes + 1, 1 << 24} {
		refuses(t, []byte{1}, api.Image{Payload: make([]byte, n)}, api.ErrBytes)
	}
}

// P11.1: an error of a number comes ahead of one of the length.
func TestMakeRangeFirst(t *testing.T) {
	for _, n := range []int{0, mostPayload, mostPayload + 1} {
		p := make([]byte, n)
		refuses(t, nil, api.Image{Slot: 8, Payload: p}, api.ErrRange)
		refuses(t, nil, api.Image{Slot: -1, Payload: p}, api.ErrRange)
		refuses(t, nil, api.Image{Key: 64, Payload: p}, api.ErrRange)
		refuses(t, nil, api.Image{Key: -1, Payload: p}, api.ErrRange)
		refuses(t, nil, api.Image{Version: -1, Payload: p}, api.ErrRange)
		refuses(t, nil, api.Image{Version: 1 << 32, Payload: p}, api.ErrRange)
	}
}

// P11.1: any secret signs: none, nil or not, each length over two blocks, and such as no ring may have.
func TestMakeSecrets(t *testing.T) {
	r := rand.New(rand.NewSource(2))
	x := api.Image{Slot: 3, Key: 4, Version: 5, Payload: []byte("payload")}
	if !bytes.Equal(makes(t, nil, x), makes(t, []byte{}, x)) {
		t.Error("no secret, nil or not")
	}
	for n := range 140 {
		makes(t, row(r, n), x)
	}
	for _, n := range []int{255, 256, 257, 1000, 1 << 20} {
		makes(t, row(r, n), x)
	}
	a, b := makes(t, []byte("one"), x), makes(t, []byte("two"), x)
	if !bytes.Equal(a[:len(a)-32], b[:len(b)-32]) || bytes.Equal(a[len(a)-32:], b[len(b)-32:]) {
		t.Errorf("two secrets: %x, %x", a, b)
	}
}

// P11.1: the Tag is not looked at, neither where there is an image nor where there is none.
func TestMakeTag(t *testing.T) {
	r := rand.New(rand.NewSource(3))
	x := api.Image{Slot: 3, Key: 4, Version: 5, Payload: []byte("payload")}
	want := makes(t, []byte("k"), x)
	for range 50 {
		x.Tag = api.Hash(row(r, 32))
		if b := makes(t, []byte("k"), x); !bytes.Equal(b, want) {
			t.Fatalf("Tag %x: %x, want %x", x.Tag, b, want)
		}
		refuses(t, []byte("k"), api.Image{Slot: 8, Tag: x.Tag}, api.ErrRange)
		refuses(t, []byte("k"), api.Image{Payload: make([]byte, mostPayload+1), Tag: x.Tag}, api.ErrBytes)
	}
}

// P11.2: each beginning of an image is short, at its length.
func TestParsePrefixes(t *testing.T) {
	for _, n := range []int{0, 1, 2, 31, 32, 33, 200, 300, 70000} {
		b := signed([]byte("k"), api.Image{Slot: 7, Key: 63, Version: 1<<32 - 1, Payload: bytes.Repeat([]byte{0xc3}, n)})
		for m := range b {
			wrong(t, b[:m], api.ErrShort, m)
		}
		parses(t, b)
	}
}

// P11.2: each byte at each of the places 0 to 7, in an image and in one that ends right behind it or somewhere else.
func TestParseEachByte(t *testing.T) {
	good := 0
	for at := range 8 {
		for v := range 256 {
			b := example(t)
			b[at] = byte(v)
			if parses(t, b) == api.OK {
				good++
			}
			for m := range b {
				parses(t, b[:m])
			}
			parses(t, append(b, 0))
		}
	}
	if good != 4+1+8+64+1 {
		t.Errorf("%d heads are right", good)
	}
}

// P11.2: of two wrong bytes the first one is told, whatever the length is and however much is there.
func TestParseFirstWrong(t *testing.T) {
	for at := range 8 {
		for other := at + 1; other < 16; other++ {
			b := example(t)
			b[at] ^= 0x80
			b[other] ^= 0xff
			wrong(t, b, api.ErrForm, at)
			wrong(t, append(b, 1, 2, 3), api.ErrForm, at)
			for m := range b {
				if m <= at {
					wrong(t, b[:m], api.ErrShort, m)
				} else {
					wrong(t, b[:m], api.ErrForm, at)
				}
			}
		}
	}
}

// withLength tells the example with another n, and so many bytes in all.
func withLength(t *testing.T, n uint32, all int) []byte {
	t.Helper()
	b := append(example(t), make([]byte, max(0, all-49))...)[:all]
	binary.LittleEndian.PutUint32(b[12:16], n)
	return b
}

// P11.2: an n that no image has is wrong at 12, however many bytes are there; the greatest one that may be is not.
func TestParseTooGreat(t *testing.T) {
	for _, all := range []int{16, 17, 47, 48, 49, 50, 1000, mostBytes - 1, mostBytes} {
		for _, n := range []uint32{mostPayload + 1, mostPayload + 2, mostBytes - 32, mostBytes - 16, mostBytes, mostBytes + 1, 1 << 20, 1 << 24, 1<<31 - 49, 1<<31 - 48, 1<<31 - 1, 1 << 31, 1<<32 - 49, 1<<32 - 48, 1<<32 - 47, 1<<32 - 1, 0xff000001} {
			wrong(t, withLength(t, n, all), api.ErrForm, 12)
		}
		for _, n := range []uint32{mostPayload, mostPayload - 1, 65536, 1024} {
			parses(t, withLength(t, n, all))
		}
	}
	wrong(t, withLength(t, mostPayload, 16), api.ErrShort, 16)
	wrong(t, withLength(t, mostPayload, mostBytes-1), api.ErrShort, mostBytes-1)
	wrong(t, withLength(t, mostPayload-1, mostBytes), api.ErrRest, mostBytes-1)
	if parses(t, withLength(t, mostPayload, mostBytes)) != api.OK {
		t.Error("the greatest image")
	}
}

// P11.2: an n one more or one less, or anything else, than what is there; each byte of n counts.
func TestParseLength(t *testing.T) {
	for all := 16; all < 400; all++ {
		for n := range 360 {
			b := withLength(t, uint32(n), all)
			switch {
			case all < 48+n:
				wrong(t, b, api.ErrShort, all)
			case all > 48+n:
				wrong(t, b, api.ErrRest, 48+n)
			default:
				if parses(t, b) != api.OK {
					t.Fatalf("n %d, %d bytes", n, all)
				}
			}
		}
	}
	for _, n := range []int{255, 256, 257, 65535, 65536, 65537, 0x030201} {
		for _, more := range []int{-1, 0, 1, 2, 300} {
			want := api.OK
			if more < 0 {
				want = api.ErrShort
			} else if more > 0 {
				want = api.ErrRest
			}
			if e := parses(t, withLength(t, uint32(n), 48+n+more)); e != want {
				t.Fatalf("n %d and %d bytes more: %v", n, more, e)
			}
		}
	}
}

// P11.2: bytes behind an image are left over, at its end, whatever they are: another image too.
func TestParseRest(t *testing.T) {
	r := rand.New(rand.NewSource(4))
	for n := range 60 {
		b := signed(nil, api.Image{Payload: row(r, n)})
		for _, rest := range [][]byte{{0}, {0xff}, bytes.Repeat([]byte{0xff}, 32), make([]byte, 16), b, row(r, 500)} {
			wrong(t, slices.Concat(b, rest), api.ErrRest, len(b))
		}
	}
}

// P11.2: more bytes than an image may have are told ahead of all else, at MaxImage.
func TestParseTooMany(t *testing.T) {
	good := signed([]byte("k"), api.Image{Payload: make([]byte, mostPayload)})
	if parses(t, good) != api.OK {
		t.Fatal("the greatest image")
	}
	for _, more := range []int{1, 2, 1000} {
		wrong(t, slices.Concat(good, make([]byte, more)), api.ErrBytes, mostBytes)
		wrong(t, make([]byte, mostBytes+more), api.ErrBytes, mostBytes)
		for at := range 16 {
			b := slices.Concat(good, make([]byte, more))
			b[at] ^= 0xff
			wrong(t, b, api.ErrBytes, mostBytes)
		}
	}
	wrong(t, make([]byte, mostBytes), api.ErrForm, 0)
	wrong(t, slices.Concat(good[:len(good)-1]), api.ErrShort, mostBytes-1)
}

// P11.2: the bytes of the version, of the payload and of the tag may be any: Parse doesn't ask whether a tag is right.
func TestParseAnyRest(t *testing.T) {
	for at := 8; at < 49; at++ {
		if at >= 12 && at < 16 {
			continue
		}
		for v := range 256 {
			b := example(t)
			b[at] = byte(v)
			if parses(t, b) != api.OK {
				t.Fatalf("%02x at %d", v, at)
			}
		}
	}
	b := example(t)
	copy(b[8:12], "\xff\xff\xff\xff")
	if x, err := image.Parse(b); err != nil || x.Version != 1<<32-1 {
		t.Errorf("the greatest version: %d, %v", x.Version, err)
	}
}

// P11.2: rows of bytes of all kinds: made at random, and images of which something was changed, cut off or laid behind.
func TestParseAnyBytes(t *testing.T) {
	r := rand.New(rand.NewSource(5))
	var count [8]int
	for range 60000 {
		b := row(r, r.Intn(120))
		if r.Intn(8) > 0 {
			b = signed(row(r, r.Intn(4)), api.Image{Slot: r.Intn(8), Key: r.Intn(64), Version: r.Int63n(1 << 32), Payload: row(r, r.Intn(40))})
		}
		for range r.Intn(3) {
			if len(b) > 0 {
				b[r.Intn(len(b))%(1+r.Intn(20))] = byte(r.Intn(1 << (1 + r.Intn(8))))
			}
		}
		switch r.Intn(4) {
		case 0:
			b = b[:r.Intn(len(b)+1)]
		case 1:
			b = append(b, row(r, r.Intn(3))...)
		}
		count[parses(t, b)]++
	}
	for _, e := range []api.Errno{api.OK, api.ErrForm, api.ErrShort, api.ErrRest} {
		if count[e] < 1000 {
			t.Errorf("%d rows of %v", count[e], e)
		}
	}
}

// P11.2: errors.As finds the *Wrong in the error, and with an api.Errno its number; so does errors.Is; of an error that wraps it, too.
func TestErrors(t *testing.T) {
	b := example(t)
	b[6] = 64
	for _, c := range []struct {
		b  []byte
		e  api.Errno
		at int
	}{
		{make([]byte, mostBytes+1), api.ErrBytes, mostBytes}, {nil, api.ErrShort, 0}, {b, api.ErrForm, 6}, {example(t)[:48], api.ErrShort, 48}, {append(example(t), 0), api.ErrRest, 49},
	} {
		_, err := image.Parse(c.b)
		for _, err := range []error{err, fmt.Errorf("around it: %w", err)} {
			var w *image.Wrong
			if !errors.As(err, &w) || w.E != c.e || w.At != c.at {
				t.Errorf("%v: %+v, want %v at %d", err, w, c.e, c.at)
			}
			var n api.Errno
			if !errors.As(err, &n) || n != c.e || !errors.Is(err, c.e) {
				t.Errorf("%v: %d, want %v", err, n, c.e)
			}
			for other := api.OK; other <= api.ErrChain; other++ {
				if other != c.e && errors.Is(err, other) {
					t.Errorf("%v: is %v", err, other)
				}
			}
		}
		if err.Error() == "" {
			t.Errorf("%+v: no text", err)
		}
	}
	if _, err := image.Parse(example(t)); err != nil {
		t.Errorf("an image: %v", err)
	}
}

// R1: a Wrong that was made by hand has a text and its number, whatever these are.
func TestWrongByHand(t *testing.T) {
	for _, e := range []api.Errno{0, 1, 5, 19, 20, -1, math.MaxInt, math.MinInt} {
		for _, at := range []int{0, 1, -1, math.MaxInt, math.MinInt} {
			w := &image.Wrong{E: e, At: at}
			if w.Error() == "" || w.Unwrap() != e || *w != (image.Wrong{E: e, At: at}) {
				t.Errorf("%d at %d: %q, %v", e, at, w.Error(), w.Unwrap())
			}
		}
	}
}

// P11.3: all but the last 32 bytes, of rows of each length; nothing of fewer than 32, and of just so many.
func TestBody(t *testing.T) {
	r := rand.New(rand.NewSource(6))
	if len(image.Body(nil)) != 0 || len(image.Body([]byte{})) != 0 {
		t.Error("Body of nothing")
	}
	for n := range 300 {
		b := row(r, n)
		got := image.Body(b)
		if n < 32 && len(got) != 0 || n >= 32 && !bytes.Equal(got, b[:n-32]) {
			t.Fatalf("Body of %d bytes: %x", n, got)
		}
	}
	for _, n := range []int{mostBytes, mostBytes + 1, 1 << 21} {
		if b := row(r, n); !bytes.Equal(image.Body(b), b[:n-32]) {
			t.Fatalf("Body of %d bytes", n)
		}
	}
}

// P11.4: Parse of what Make tells is x, with the tag, which is mac.Of of the secret and of Body.
func TestThereAndBack(t *testing.T) {
	r := rand.New(rand.NewSource(7))
	for i := range 3000 {
		secret := row(r, r.Intn(150))
		x := api.Image{Slot: r.Intn(8), Key: r.Intn(64), Version: r.Int63n(1 << 32), Payload: row(r, r.Intn(200)), Tag: api.Hash(row(r, 32))}
		if i < 3 {
			x.Payload = row(r, mostPayload-i)
		}
		b, e := image.Make(secret, x)
		if e != api.OK {
			t.Fatal(e)
		}
		x.Tag = mac.Of(secret, image.Body(b))
		takes(t, b, x)
	}
}

// P11.4: what Parse takes is Make's answer to it, with whatever secret, but for the last 32 bytes, which are the tag.
func TestBackAndThere(t *testing.T) {
	r := rand.New(rand.NewSource(8))
	for range 3000 {
		b := slices.Concat(covered(api.Image{Slot: r.Intn(8), Key: r.Intn(64), Version: r.Int63n(1 << 32), Payload: row(r, r.Intn(200))}), row(r, 32))
		x, err := image.Parse(b)
		if err != nil {
			t.Fatal(err)
		}
		again, e := image.Make(row(r, r.Intn(150)), x)
		if e != api.OK || len(again) != len(b) || !bytes.Equal(image.Body(again), image.Body(b)) || !bytes.Equal(b[len(b)-32:], x.Tag[:]) {
			t.Fatalf("of %x: %x, %v", b, again, e)
		}
	}
}

// room tells bytes with spare room behind them, and all of it.
func room(b []byte) (in, all []byte) {
	all = slices.Concat(b, bytes.Repeat([]byte{0xa5}, 300))
	return all[:len(b)], all
}

// spoil turns all bytes of a row, and those of its spare room.
func spoil(b []byte) {
	all := b[:cap(b)]
	for i := range all {
		all[i] ^= 0x5a
	}
}

// P11.5: what is handed in is not changed, also in the room behind its length.
func TestArgumentsUnchanged(t *testing.T) {
	r := rand.New(rand.NewSource(9))
	for n := range 140 {
		secret, secretRoom := room(row(r, n))
		payload, payloadRoom := room(row(r, n))
		wasSecret, wasPayload := slices.Clone(secretRoom), slices.Clone(payloadRoom)
		x := api.Image{Slot: 1, Key: 2, Version: 3, Payload: payload, Tag: api.Hash{4}}
		image.Make(secret, x)
		refuses(t, secret, api.Image{Slot: 8, Payload: payload}, api.ErrRange)
		if !bytes.Equal(secretRoom, wasSecret) || !bytes.Equal(payloadRoom, wasPayload) {
			t.Fatalf("Make of %d bytes: changed", n)
		}
		for _, b := range [][]byte{signed(secret, x), signed(secret, x)[:n], slices.Concat(signed(secret, x), []byte{1}), row(r, n)} {
			in, all := room(b)
			was := slices.Clone(all)
			image.Parse(in)
			image.Body(in)
			if !bytes.Equal(all, was) {
				t.Fatalf("Parse and Body of %d bytes: changed", n)
			}
		}
	}
}

// P11.5: what comes out is its owner's: answers and arguments are written over, and grown into their spare room, and none sees it of another one.
func TestAnswersApart(t *testing.T) {
	r := rand.New(rand.NewSource(10))
	for n := range 140 {
		secret, payload := row(r, n), row(r, n)
		whole := signed(secret, api.Image{Slot: 1, Key: 2, Version: 3, Payload: payload})
		apart(t, payload, whole, func(p []byte) []byte {
			b, _ := image.Make(secret, api.Image{Slot: 1, Key: 2, Version: 3, Payload: p})
			return b
		})
		apart(t, secret, whole, func(s []byte) []byte {
			b, _ := image.Make(s, api.Image{Slot: 1, Key: 2, Version: 3, Payload: payload})
			return b
		})
		apart(t, whole, payload, func(b []byte) []byte {
			x, _ := image.Parse(b)
			return x.Payload
		})
		apart(t, whole, whole[:len(whole)-32], image.Body)
		apart(t, whole[:32], nil, image.Body)
	}
}

// apart asks with an argument that has spare room, and holds what is told and what was handed in against what they were, the other one being written over and grown.
func apart(t *testing.T, in, want []byte, ask func([]byte) []byte) {
	t.Helper()
	arg, all := room(in)
	was := slices.Clone(all)
	got, other := ask(arg), ask(arg)
	spoil(got)
	if !bytes.Equal(all, was) {
		t.Fatalf("of %x: the answer written over, and the argument changed", in)
	}
	if !bytes.Equal(other, want) {
		t.Fatalf("of %x: one answer written over, and another one is %x", in, other)
	}
	last := ask(arg)
	told := slices.Clone(last[:cap(last)])
	spoil(arg)
	spoil(other)
	if !bytes.Equal(last, want) || !bytes.Equal(last[:cap(last)], told) {
		t.Fatalf("of %x: the argument written over, and the answer is %x", in, last)
	}
}

// P11.5: two errors are not one: what is done to the one is not seen of the other.
func TestErrorsApart(t *testing.T) {
	_, one := image.Parse(nil)
	one.(*image.Wrong).E, one.(*image.Wrong).At = api.ErrChain, 99
	wrong(t, nil, api.ErrShort, 0)
}

// P11.5: one row may be secret and payload; an image may be another one's payload.
func TestOneRowTwice(t *testing.T) {
	b := makes(t, []byte("k"), api.Image{Version: 1, Payload: []byte("in")})
	around := makes(t, b, api.Image{Version: 2, Payload: b})
	x, err := image.Parse(around)
	if err != nil || !bytes.Equal(x.Payload, b) {
		t.Fatalf("%x, %v", x.Payload, err)
	}
	parses(t, x.Payload)
}

// R4: an answer hangs on the arguments alone, whoever else is asking at that time.
func TestManyAtOneTime(t *testing.T) {
	r := rand.New(rand.NewSource(11))
	secret := row(r, 70)
	x := api.Image{Slot: 3, Key: 4, Version: 5, Payload: row(r, 5000)}
	b := signed(secret, x)
	x.Tag = api.Hash(b[len(b)-32:])
	var all sync.WaitGroup
	var bad [8]bool
	for i := range bad {
		all.Go(func() {
			for range 20 {
				made, e := image.Make(secret, x)
				got, err := image.Parse(b)
				_, short := image.Parse(b[:100+i])
				bad[i] = bad[i] || e != api.OK || !bytes.Equal(made, b) || err != nil || !same(got, x) || !errors.Is(short, api.ErrShort) || !bytes.Equal(image.Body(b), b[:len(b)-32])
			}
		})
	}
	all.Wait()
	if bad != [8]bool{} {
		t.Errorf("%v", bad)
	}
}

// The errors that come here and the limits have the numbers that the document gives.
func TestNumbers(t *testing.T) {
	if got := [5]api.Errno{api.ErrRange, api.ErrBytes, api.ErrForm, api.ErrShort, api.ErrRest}; got != [5]api.Errno{2, 4, 5, 6, 7} || api.OK != 0 {
		t.Errorf("errors: %d", got)
	}
	if got := [3]int{api.MaxSlots, api.MaxKeys, api.MaxImage}; got != [3]int{8, 64, mostBytes} {
		t.Errorf("limits: %d", got)
	}
}
