package keys_test

import (
	"bytes"
	"crypto/hmac"
	"crypto/sha256"
	"encoding/hex"
	"fmt"
	"math"
	"math/rand"
	"slices"
	"sync"
	"testing"

	"portcullis/api"
	"portcullis/image"
	"portcullis/keys"
	"portcullis/mac"
)

// The numbers of the document, written out.
const (
	mostKeys   = 64
	mostSecret = 256
)

// no are numbers that no key has, also ones that would wrap round to such as are there.
var no = []int{-1, -2, -63, -64, -256, math.MinInt, math.MinInt + 1, -1 << 32, 64, 65, 127, 128, 255, 256, 257, 1 << 16, 1<<31 - 1, 1 << 31, 1 << 32, 1<<32 + 1, math.MaxInt}

func row(r *rand.Rand, n int) []byte {
	b := make([]byte, n)
	r.Read(b)
	return b
}

// tagOf is the library's HMAC-SHA-256, which the program itself may not lean on.
func tagOf(secret, b []byte) api.Hash {
	h := hmac.New(sha256.New, secret)
	h.Write(b)
	return api.Hash(h.Sum(nil))
}

// judged is what New must tell of a list, as the chapter's words have it.
func judged(l []api.Secret) (api.Errno, int) {
	if len(l) > mostKeys {
		return api.ErrMany, mostKeys
	}
	for i, s := range l {
		switch n := len(s.Bytes); {
		case s.Key < 0 || s.Key > mostKeys-1:
			return api.ErrRange, i
		case n == 0 || n > mostSecret:
			return api.ErrBytes, i
		case slices.ContainsFunc(l[:i], func(o api.Secret) bool { return o.Key == s.Key }):
			return api.ErrTwice, i
		}
	}
	return api.OK, 0
}

// secret tells a small one that is right.
func secret(key int) api.Secret {
	return api.Secret{Key: key, Bytes: []byte{byte(key), 0x5e}}
}

func secrets(keys ...int) []api.Secret {
	var l []api.Secret
	for _, k := range keys {
		l = append(l, secret(k))
	}
	return l
}

// rightOnes tells n secrets with the keys 0 to n - 1.
func rightOnes(n int) []api.Secret {
	var l []api.Secret
	for k := range n {
		l = append(l, secret(k))
	}
	return l
}

// clone tells a list that shares no memory with l.
func clone(l []api.Secret) []api.Secret {
	var c []api.Secret
	for _, s := range l {
		c = append(c, api.Secret{Key: s.Key, Bytes: slices.Clone(s.Bytes)})
	}
	return c
}

// short tells a list for a message.
func short(l []api.Secret) string {
	text := ""
	for _, s := range l {
		text += fmt.Sprintf(" %d:%d", s.Key, len(s.Bytes))
	}
	return text
}

func made(t *testing.T, l []api.Secret) *keys.Ring {
	t.Helper()
	r, e, at := keys.New(l)
	if r == nil || e != api.OK || at != 0 {
		t.Fatalf("New(%s): %v, %v at %d", short(l), r, e, at)
	}
	return r
}

func refuses(t *testing.T, l []api.Secret, want api.Errno, place int) {
	t.Helper()
	if r, e, at := keys.New(l); r != nil || e != want || at != place {
		t.Fatalf("New(%s): %v, %v at %d, want nil, %v at %d", short(l), r, e, at, want, place)
	}
}

// judges holds New's answer to any list against the words, and tells the error's number.
func judges(t *testing.T, l []api.Secret) api.Errno {
	t.Helper()
	e, at := judged(l)
	if e != api.OK {
		refuses(t, l, e, at)
	} else {
		holds(t, made(t, l), l, []byte("bytes"))
	}
	return e
}

// holds holds all answers of a ring against the secrets that it was made of.
func holds(t *testing.T, r *keys.Ring, l []api.Secret, b []byte) {
	t.Helper()
	var all []int
	for k := range mostKeys {
		i := slices.IndexFunc(l, func(s api.Secret) bool { return s.Key == k })
		if i < 0 {
			lacks(t, r, k, b)
			continue
		}
		all = append(all, k)
		signs(t, r, k, b, tagOf(l[i].Bytes, b))
	}
	if got := r.Numbers(); !slices.Equal(got, all) {
		t.Fatalf("Numbers: %v, want %v", got, all)
	}
	for _, k := range no {
		lacks(t, r, k, b)
	}
}

// signs holds what a ring answers about a key that it has against the right tag.
func signs(t *testing.T, r *keys.Ring, k int, b []byte, want api.Hash) {
	t.Helper()
	if !r.Has(k) {
		t.Fatalf("Has(%d): false", k)
	}
	if tag, e := r.Sign(k, b); tag != want || e != api.OK {
		t.Fatalf("Sign(%d): %x, %v, want %x", k, tag, e, want)
	}
	if is, e := r.Check(k, b, want); !is || e != api.OK {
		t.Fatalf("Check(%d) of the right tag: %v, %v", k, is, e)
	}
	want[31] ^= 1
	denies(t, r, k, b, want)
}

// denies holds Check's answer to a wrong tag.
func denies(t *testing.T, r *keys.Ring, k int, b []byte, tag api.Hash) {
	t.Helper()
	if is, e := r.Check(k, b, tag); is || e != api.OK {
		t.Fatalf("Check(%d) of the wrong tag %x: %v, %v", k, tag, is, e)
	}
}

// lacks holds what a ring answers about a key that it hasn't.
func lacks(t *testing.T, r *keys.Ring, k int, b []byte) {
	t.Helper()
	if r.Has(k) {
		t.Fatalf("Has(%d): true", k)
	}
	if tag, e := r.Sign(k, b); tag != (api.Hash{}) || e != api.ErrKey {
		t.Fatalf("Sign(%d): %x, %v", k, tag, e)
	}
	for _, tag := range []api.Hash{{}, tagOf(nil, b), tagOf([]byte{0}, b)} {
		if is, e := r.Check(k, b, tag); is || e != api.ErrKey {
			t.Fatalf("Check(%d): %v, %v", k, is, e)
		}
	}
}

// P12.1, P12.2, P12.3: the examples of the chapter.
func TestExamples(t *testing.T) {
	b := []byte("b")
	r := made(t, []api.Secret{{Key: 5, Bytes: []byte{1, 2}}, {Key: 3, Bytes: []byte{7}}})
	if !r.Has(3) || r.Has(4) || !slices.Equal(r.Numbers(), []int{3, 5}) {
		t.Errorf("Has(3): %v, Has(4): %v, Numbers: %v", r.Has(3), r.Has(4), r.Numbers())
	}
	lacks(t, r, 4, b)
	if is, e := r.Check(5, b, mac.Of([]byte{1, 2}, b)); !is || e != api.OK {
		t.Errorf("Check(5): %v, %v", is, e)
	}
	denies(t, r, 3, b, mac.Of([]byte{1, 2}, b))

	holds(t, made(t, nil), nil, b)
	refuses(t, secrets(64), api.ErrRange, 0)
	refuses(t, []api.Secret{{Key: 1, Bytes: []byte{1}}, {Key: 2}}, api.ErrBytes, 1)
	refuses(t, []api.Secret{{Key: 1, Bytes: []byte{1}}, {Key: 1, Bytes: []byte{2}}}, api.ErrTwice, 1)
	refuses(t, rightOnes(65), api.ErrMany, 64)
}

// P12.3: a tag that was reckoned elsewhere: the second one of RFC 4231.
func TestTagWrittenOut(t *testing.T) {
	want, err := hex.DecodeString("5bdcc146bf60754e6a042426089575c75a003f089d2739839dec58b964ec3843")
	if err != nil {
		t.Fatal(err)
	}
	r := made(t, []api.Secret{{Key: 0, Bytes: []byte("Jefe")}})
	signs(t, r, 0, []byte("what do ya want for nothing?"), api.Hash(want))
}

// P12.1: a ring may have no secret, of a nil list or of one without elements.
func TestNewNone(t *testing.T) {
	for _, l := range [][]api.Secret{nil, {}, rightOnes(3)[:0]} {
		holds(t, made(t, l), nil, []byte{1})
	}
}

// P12.1: each key that may be, alone and behind others, and such as may not be.
func TestNewKeys(t *testing.T) {
	for k := range mostKeys {
		judges(t, secrets(k))
		judges(t, secrets((k+1)%mostKeys, k))
	}
	for _, k := range no {
		refuses(t, secrets(k), api.ErrRange, 0)
		refuses(t, secrets(0, k, 1), api.ErrRange, 1)
		for n := range mostKeys {
			refuses(t, append(rightOnes(n), secret(k)), api.ErrRange, n)
		}
	}
}

// P12.1: secrets of each length from none on to beyond the greatest one.
func TestNewBytes(t *testing.T) {
	r := rand.New(rand.NewSource(1))
	for _, bad := range [][]byte{nil, {}, row(r, 9)[:0], make([]byte, 257), make([]byte, 258), make([]byte, 512), make([]byte, 1<<16), make([]byte, 1<<20)} {
		refuses(t, []api.Secret{{Key: 7, Bytes: bad}}, api.ErrBytes, 0)
		refuses(t, []api.Secret{secret(1), secret(2), {Key: 7, Bytes: bad}, secret(3)}, api.ErrBytes, 2)
	}
	for n := 1; n <= mostSecret; n++ {
		l := []api.Secret{{Key: n % mostKeys, Bytes: row(r, n)}}
		holds(t, made(t, l), l, row(r, n))
		l = []api.Secret{{Key: 2, Bytes: make([]byte, n)}}
		holds(t, made(t, l), l, nil)
	}
}

// P12.1: MaxKeys secrets and fewer; of more none is looked at.
func TestNewMany(t *testing.T) {
	for n := range mostKeys + 1 {
		judges(t, rightOnes(n))
	}
	for _, n := range []int{65, 66, 128, 1000, 70000} {
		refuses(t, rightOnes(n), api.ErrMany, mostKeys)
		refuses(t, make([]api.Secret, n), api.ErrMany, mostKeys)
		for _, at := range []int{0, 1, 63, 64, n - 1} {
			for _, bad := range []api.Secret{secret(-1), secret(64), {Key: 3}, {Key: 3, Bytes: make([]byte, 257)}, secret(0), secret(1)} {
				l := rightOnes(n)
				for i := range l {
					l[i].Key %= mostKeys
				}
				l[at] = bad
				refuses(t, l, api.ErrMany, mostKeys)
			}
		}
	}
}

// P12.1: a Key that comes twice, at each two places of a list, with the same bytes or with others: the second place is told.
func TestNewTwice(t *testing.T) {
	for j := 1; j < mostKeys; j++ {
		for i := range j {
			l := rightOnes(mostKeys)
			l[j].Key = l[i].Key
			refuses(t, l, api.ErrTwice, j)
			refuses(t, l[:j+1], api.ErrTwice, j)
			l[j] = l[i]
			refuses(t, l, api.ErrTwice, j)
		}
	}
	refuses(t, secrets(4, 4, 4), api.ErrTwice, 1)
	refuses(t, secrets(4, 5, 5, 4), api.ErrTwice, 2)
	refuses(t, secrets(0, 1, 0, 1), api.ErrTwice, 2)
}

// P12.1: one row of bytes under two numbers is no fault.
func TestOneRowTwice(t *testing.T) {
	b := []byte("one for all")
	l := []api.Secret{{Key: 9, Bytes: b}, {Key: 8, Bytes: b}, {Key: 7, Bytes: b[:3]}, {Key: 6, Bytes: b[3:]}}
	holds(t, made(t, l), l, b)
}

// faults are secrets that are wrong in one thing or in two, behind one of the key 0.
func faults() []api.Secret {
	tooMany := make([]byte, 257)
	return []api.Secret{
		secret(-1), secret(64), {Key: 50}, {Key: 50, Bytes: tooMany}, secret(0),
		{Key: -1}, {Key: 64, Bytes: tooMany}, {Key: 0}, {Key: 0, Bytes: tooMany}, {Key: math.MaxInt}, {Key: math.MinInt, Bytes: tooMany},
	}
}

// P12.1: of two things wrong in one secret the first one is told, of two wrong secrets the first one.
func TestNewFirstWrong(t *testing.T) {
	want := []api.Errno{2, 2, 4, 4, 18, 2, 2, 4, 4, 2, 2}
	for i, one := range faults() {
		for _, n := range []int{1, 2, 5, 49} {
			refuses(t, append(rightOnes(n), one), want[i], n)
			for _, other := range faults() {
				for _, between := range []int{0, 1, 10} {
					l := append(rightOnes(n), one)
					for k := range between {
						l = append(l, secret(51+k))
					}
					refuses(t, append(l, other), want[i], n)
				}
			}
		}
	}
}

// P12.1, P12.2, P12.3: lists of all kinds, made at random.
func TestAnyLists(t *testing.T) {
	r := rand.New(rand.NewSource(2))
	count := map[api.Errno]int{}
	for range 3000 {
		var l []api.Secret
		wide := 1 + r.Intn(3*mostKeys)
		for range r.Intn(1 + r.Intn(70)) {
			s := api.Secret{Key: r.Intn(wide) % mostKeys, Bytes: row(r, 1+r.Intn(80))}
			switch r.Intn(200) {
			case 0:
				s.Key = no[r.Intn(len(no))]
			case 1:
				s.Bytes = nil
			case 2:
				s.Bytes = row(r, 255+r.Intn(4))
			}
			l = append(l, s)
		}
		count[judges(t, l)]++
	}
	for _, e := range []api.Errno{api.OK, api.ErrRange, api.ErrMany, api.ErrBytes, api.ErrTwice} {
		if count[e] < 10 {
			t.Errorf("%d lists of %v", count[e], e)
		}
	}
}

// P12.2: the numbers rise, whatever the order in which they came, and however often one asks.
func TestNumbersRise(t *testing.T) {
	r := rand.New(rand.NewSource(3))
	if n := made(t, nil).Numbers(); len(n) != 0 {
		t.Errorf("of none: %v", n)
	}
	for k := range mostKeys {
		if n := made(t, secrets(k)).Numbers(); !slices.Equal(n, []int{k}) {
			t.Errorf("of %d: %v", k, n)
		}
	}
	for n := 2; n <= mostKeys; n++ {
		some := r.Perm(mostKeys)[:n]
		ring := made(t, secrets(some...))
		slices.Sort(some)
		for range 5 {
			if got := ring.Numbers(); !slices.Equal(got, some) {
				t.Fatalf("Numbers: %v, want %v", got, some)
			}
		}
	}
}

// P12.3: bytes of none, nil or not, of each length over some blocks, and many.
func TestSignedBytes(t *testing.T) {
	r := rand.New(rand.NewSource(4))
	l := []api.Secret{{Key: 63, Bytes: row(r, 256)}, {Key: 0, Bytes: row(r, 1)}, {Key: 31, Bytes: row(r, 64)}, {Key: 30, Bytes: row(r, 65)}}
	ring := made(t, l)
	holds(t, ring, l, nil)
	holds(t, ring, l, []byte{})
	for n := range 200 {
		b := row(r, n)
		for _, s := range l {
			signs(t, ring, s.Key, b, tagOf(s.Bytes, b))
		}
	}
	b := row(r, 1<<20)
	signs(t, ring, 63, b, tagOf(l[0].Bytes, b))
}

// P12.3: Sign and Check are about the key that is named: the tag of another one is none.
func TestEachKeyItsOwn(t *testing.T) {
	b := []byte("who has signed this?")
	l := rightOnes(mostKeys)
	ring := made(t, l)
	for _, s := range l {
		for k := range mostKeys {
			if is, e := ring.Check(k, b, tagOf(s.Bytes, b)); is != (k == s.Key) || e != api.OK {
				t.Fatalf("Check(%d) of the tag under %d: %v, %v", k, s.Key, is, e)
			}
		}
	}
}

// P12.4: Check of what Sign tells is true; with one bit turned, at each of its places, and of other tags it is false.
func TestCheckOfSign(t *testing.T) {
	r := rand.New(rand.NewSource(5))
	l := []api.Secret{{Key: 2, Bytes: row(r, 20)}, {Key: 40, Bytes: row(r, 200)}}
	ring := made(t, l)
	for _, s := range l {
		b := row(r, 50)
		tag, e := ring.Sign(s.Key, b)
		if is, e2 := ring.Check(s.Key, b, tag); !is || e != api.OK || e2 != api.OK {
			t.Fatalf("Check of Sign: %v, %v, %v", is, e, e2)
		}
		for bit := range 256 {
			other := tag
			other[bit/8] ^= 1 << (bit % 8)
			denies(t, ring, s.Key, b, other)
		}
		for at := range tag {
			for v := range 256 {
				other := tag
				other[at] = byte(v)
				if is, e := ring.Check(s.Key, b, other); is != (other == tag) || e != api.OK {
					t.Fatalf("%02x at %d: %v, %v", v, at, is, e)
				}
			}
		}
		turned := tag
		slices.Reverse(turned[:])
		for _, other := range []api.Hash{{}, turned, api.Hash(row(r, 32)), tagOf(s.Bytes, b[1:]), tagOf(s.Bytes, append(b, 0)), tagOf(s.Bytes[1:], b), tagOf(nil, b), sha256.Sum256(b)} {
			denies(t, ring, s.Key, b, other)
		}
	}
}

// P12.4: bytes with one bit turned have another tag.
func TestCheckOfOtherBytes(t *testing.T) {
	ring := made(t, secrets(1))
	b := []byte("signed and sealed")
	tag, _ := ring.Sign(1, b)
	for bit := range 8 * len(b) {
		other := slices.Clone(b)
		other[bit/8] ^= 1 << (bit % 8)
		denies(t, ring, 1, other, tag)
	}
	for n := range b {
		denies(t, ring, 1, b[:n], tag)
	}
}

// P12.4: Check is about the tags that images carry, and Sign makes such.
func TestImages(t *testing.T) {
	ring := made(t, []api.Secret{{Key: 2, Bytes: []byte("secret")}})
	b, e := image.Make([]byte("secret"), api.Image{Slot: 1, Key: 2, Version: 3, Payload: []byte("payload")})
	x, err := image.Parse(b)
	if e != api.OK || err != nil {
		t.Fatal(e, err)
	}
	signs(t, ring, x.Key, image.Body(b), x.Tag)
}

// P12.4: the answers don't hang on the order of the secrets.
func TestOrder(t *testing.T) {
	r := rand.New(rand.NewSource(6))
	for n := range 40 {
		var l []api.Secret
		for _, k := range r.Perm(mostKeys)[:n] {
			l = append(l, api.Secret{Key: k, Bytes: row(r, 1+r.Intn(100))})
		}
		other := slices.Clone(l)
		slices.Reverse(other)
		holds(t, made(t, other), l, []byte("b"))
		for range 3 {
			r.Shuffle(n, func(i, j int) { other[i], other[j] = other[j], other[i] })
			holds(t, made(t, other), l, []byte("b"))
		}
	}
}

// P12.4: asking changes nothing: all answers are the same behind others, behind refusals too.
func TestAskedAgain(t *testing.T) {
	l := secrets(9, 1, 60)
	ring := made(t, l)
	for range 3 {
		for _, k := range slices.Concat([]int{9, 1, 60, 2, 61}, no) {
			ring.Has(k)
			ring.Sign(k, []byte{byte(k)})
			ring.Check(k, []byte{byte(k)}, api.Hash{byte(k)})
		}
		holds(t, ring, l, []byte("again"))
	}
}

// room tells bytes with spare room behind them, and all of it.
func room(b []byte) (in, all []byte) {
	all = slices.Concat(b, bytes.Repeat([]byte{0xa5}, 300))
	return all[:len(b)], all
}

// spoil turns all bytes of a row, and those of its spare room.
func spoil(b []byte) {
	all := b[:cap(b)]
	for i := range all {
		all[i] ^= 0x5a
	}
}

// P12.4, P12.5: what is done to the list and to the secrets' bytes behind New, their spare room too, is not seen.
func TestBehindNew(t *testing.T) {
	r := rand.New(rand.NewSource(7))
	for n := 1; n <= mostKeys; n++ {
		var l []api.Secret
		for k := range n {
			b, _ := room(row(r, 1+r.Intn(256)))
			l = append(l, api.Secret{Key: k, Bytes: b})
		}
		was := clone(l)
		ring := made(t, l)
		for i := range l {
			spoil(l[i].Bytes)
		}
		holds(t, ring, was, []byte("b"))
		for i := range l {
			l[i] = api.Secret{Key: 63 - i, Bytes: []byte{1}}
		}
		holds(t, ring, was, []byte("b"))
	}
}

// P12.5: what is handed in is not changed, also in the room behind its length, where there is a ring and where there is none.
func TestArgumentsUnchanged(t *testing.T) {
	r := rand.New(rand.NewSource(8))
	for _, last := range []api.Secret{secret(40), secret(64), {Key: 40}, {Key: 40, Bytes: make([]byte, 257)}, secret(1)} {
		var rows [][]byte
		var whole []api.Secret
		for k, s := range append(rightOnes(20), last, secret(41), secret(42)) {
			in, all := room(append(slices.Clone(s.Bytes), row(r, k*len(s.Bytes))...))
			rows = append(rows, all)
			whole = append(whole, api.Secret{Key: s.Key, Bytes: in})
		}
		l := whole[:21]
		wasRows, wasList := clonedRows(rows), clone(whole)
		keys.New(l)
		for i, s := range whole {
			if s.Key != wasList[i].Key || !bytes.Equal(s.Bytes, wasList[i].Bytes) || &s.Bytes[:1][0] != &rows[i][0] || !bytes.Equal(rows[i], wasRows[i]) {
				t.Fatalf("the secret %d was changed", i)
			}
		}
	}
	ring := made(t, secrets(1))
	for n := range 140 {
		in, all := room(row(r, n))
		was := slices.Clone(all)
		ring.Sign(1, in)
		ring.Sign(2, in)
		ring.Check(1, in, api.Hash{})
		ring.Check(2, in, api.Hash{})
		if !bytes.Equal(all, was) {
			t.Fatalf("%d bytes: changed", n)
		}
	}
}

func clonedRows(l [][]byte) [][]byte {
	var c [][]byte
	for _, b := range l {
		c = append(c, slices.Clone(b))
	}
	return c
}

// P12.5: bytes that were signed may be written over: they are not kept.
func TestBytesNotKept(t *testing.T) {
	ring := made(t, secrets(1))
	b := []byte("bytes")
	tag, _ := ring.Sign(1, b)
	spoil(b)
	signs(t, ring, 1, []byte("bytes"), tag)
	denies(t, ring, 1, b, tag)
}

// P12.5: numbers that were told are their owner's, spare room too.
func TestNumbersApart(t *testing.T) {
	l := secrets(8, 3, 50, 1, 2)
	ring := made(t, l)
	one, other := ring.Numbers(), ring.Numbers()
	all := one[:cap(one)]
	for i := range all {
		all[i] = 7
	}
	if !slices.Equal(other, []int{1, 2, 3, 8, 50}) {
		t.Errorf("written over: another answer is %v", other)
	}
	holds(t, ring, l, []byte("b"))
}

// P12.5: two rings have nothing in common, also if they were made of one list.
func TestRingsApart(t *testing.T) {
	l := secrets(1, 2)
	one := made(t, l)
	wasOne := clone(l)
	l[0].Bytes[0] ^= 0xff
	l[1].Key = 9
	two := made(t, l)
	three := made(t, nil)
	holds(t, one, wasOne, []byte("b"))
	holds(t, two, l, []byte("b"))
	holds(t, three, nil, []byte("b"))
}

// R4: an answer hangs on the arguments and on the ring alone, whoever else is asking at that time.
func TestManyAtOneTime(t *testing.T) {
	l := secrets(5, 3, 60)
	ring := made(t, l)
	b := []byte("asked by many")
	want := tagOf(l[0].Bytes, b)
	var all sync.WaitGroup
	var bad [8]bool
	for i := range bad {
		all.Go(func() {
			for range 200 {
				own, e, _ := keys.New(l)
				tag, e2 := ring.Sign(5, b)
				is, e3 := own.Check(5, b, tag)
				isNot, e4 := ring.Check(3, b, tag)
				_, e5 := ring.Sign(i+10, b)
				bad[i] = bad[i] || e != api.OK || e2 != api.OK || tag != want || !is || e3 != api.OK || isNot || e4 != api.OK || e5 != api.ErrKey || !ring.Has(60) || ring.Has(i+10) || !slices.Equal(ring.Numbers(), []int{3, 5, 60})
			}
		})
	}
	all.Wait()
	if bad != [8]bool{} {
		t.Errorf("%v", bad)
	}
}

// The errors that come here and the limits have the numbers that the document gives.
func TestNumbers(t *testing.T) {
	if got := [5]api.Errno{api.ErrRange, api.ErrMany, api.ErrBytes, api.ErrKey, api.ErrTwice}; got != [5]api.Errno{2, 3, 4, 13, 18} || api.OK != 0 {
		t.Errorf("errors: %d", got)
	}
	if got := [2]int{api.MaxKeys, api.MaxSecret}; got != [2]int{mostKeys, mostSecret} {
		t.Errorf("limits: %d", got)
	}
}
