package rail_test

import (
	"bytes"
	"math/rand"
	"slices"
	"sync"
	"testing"

	"portcullis/api"
	"portcullis/rail"
)

func row(r *rand.Rand, n int) []byte {
	b := make([]byte, n)
	r.Read(b)
	return b
}

// want is the rail of bytes as the chapter's words have it: each bit of the back half is not what it is in the front half.
func want(b []byte) []byte {
	w := slices.Concat(b, make([]byte, len(b)))
	for i := range 8 * len(b) {
		if b[i/8]>>(i%8)&1 == 0 {
			w[len(b)+i/8] |= 1 << (i % 8)
		}
	}
	return w
}

// lies is Below as the chapter's words have it, bit by bit.
func lies(a, b []byte) bool {
	below := len(a) == len(b)
	for i := range 8 * min(len(a), len(b)) {
		if a[i/8]>>(i%8)&1 == 1 && b[i/8]>>(i%8)&1 == 0 {
			below = false
		}
	}
	return below
}

func right(t *testing.T, r, b []byte) {
	t.Helper()
	if !rail.Right(r) {
		t.Fatalf("Right(%x): false", r)
	}
	if got, e := rail.Get(r); e != api.OK || !bytes.Equal(got, b) {
		t.Fatalf("Get(%x): %x, %v, want %x", r, got, e, b)
	}
}

func wrong(t *testing.T, b []byte) {
	t.Helper()
	if rail.Right(b) {
		t.Fatalf("Right(%x): true", b)
	}
	if got, e := rail.Get(b); e != api.ErrForm || len(got) != 0 {
		t.Fatalf("Get(%x): %x, %v, want ErrForm and nothing", b, got, e)
	}
}

// P5.1: the examples of the chapter for Put, Get and Right; no bytes, nil or not.
func TestExamples(t *testing.T) {
	for _, x := range [][2]string{{"", ""}, {"\x00", "\x00\xff"}, {"\xff", "\xff\x00"}, {"\x12\xff", "\x12\xff\xed\x00"}} {
		if got := rail.Put([]byte(x[0])); string(got) != x[1] {
			t.Errorf("Put(%x): %x, want %x", x[0], got, x[1])
		}
		right(t, []byte(x[1]), []byte(x[0]))
	}
	if len(rail.Put(nil)) != 0 {
		t.Error("Put(nil)")
	}
	right(t, nil, nil)
	for _, b := range []string{"\x12\xff\xed\x01", "\x12", "\x12\xed\xff", "\xff\xff", "\x00\x00", "\x00", "\xff"} {
		wrong(t, []byte(b))
	}
}

// P5.1: all rows of two bytes, and rows of each length up to 300 and of a few long ones.
func TestPut(t *testing.T) {
	for v := range 1 << 16 {
		b := []byte{byte(v), byte(v >> 8)}
		if got := rail.Put(b); !bytes.Equal(got, want(b)) {
			t.Fatalf("Put(%x): %x", b, got)
		}
	}
	r := rand.New(rand.NewSource(1))
	for n := range 300 {
		b := row(r, n)
		if got := rail.Put(b); !bytes.Equal(got, want(b)) {
			t.Fatalf("Put(%x): %x", b, got)
		}
	}
	for _, n := range []int{4095, 4096, 65536, 100001} {
		b := row(r, n)
		if !bytes.Equal(rail.Put(b), want(b)) {
			t.Fatalf("Put of %d bytes", n)
		}
	}
}

// P5.1: of all rows of two bytes just those are right of which the second is the first one's complement.
func TestEachPair(t *testing.T) {
	for a := range 256 {
		for b := range 256 {
			if x := []byte{byte(a), byte(b)}; a+b == 255 {
				right(t, x, x[:1])
			} else {
				wrong(t, x)
			}
		}
	}
}

// P5.1: an odd number of bytes is no rail, whatever they are: a right row with a byte more at any place, or with one less.
func TestOddNumber(t *testing.T) {
	r := rand.New(rand.NewSource(2))
	for n := range 40 {
		x := want(row(r, n))
		for i := range len(x) + 1 {
			for _, v := range []byte{0, 0x55, 0xff} {
				wrong(t, slices.Insert(slices.Clone(x), i, v))
			}
		}
		for i := range x {
			wrong(t, slices.Delete(slices.Clone(x), i, i+1))
		}
	}
}

// P5.1: any one bit of a right row turned, in either half, or any one byte made another one, is wrong.
func TestOneWrong(t *testing.T) {
	r := rand.New(rand.NewSource(3))
	for _, n := range []int{1, 2, 3, 16, 33} {
		b := row(r, n)
		x := want(b)
		for i := range x {
			for turn := 1; turn < 256; turn++ {
				x[i] ^= byte(turn)
				wrong(t, x)
				x[i] ^= byte(turn)
			}
		}
		right(t, x, b)
	}
}

// P5.1: complements in another order, twice the same bytes, complements ahead and the rail of a longer row cut off are not the rail.
func TestOtherOrder(t *testing.T) {
	x := want([]byte{1, 2, 3})
	for _, b := range [][]byte{
		{1, 2, 3, 0xfc, 0xfd, 0xfe},
		{1, 0xfe, 2, 0xfd, 3, 0xfc},
		{1, 2, 3, 1, 2, 3},
		slices.Concat(x, x),
		slices.Concat([]byte{0}, x, []byte{0}),
		x[1:5], x[:4], x[2:],
	} {
		wrong(t, b)
	}
	right(t, []byte{0xfe, 0xfd, 0xfc, 1, 2, 3}, []byte{0xfe, 0xfd, 0xfc})
}

// P5.1: the examples of the chapter for Below, and all pairs of bytes.
func TestBelow(t *testing.T) {
	for _, x := range []struct {
		a, b string
		want bool
	}{
		{"\x12", "\x13", true}, {"\x13", "\x12", false}, {"\x12", "\x12", true}, {"\x12", "\x12\x00", false}, {"", "", true},
	} {
		if rail.Below([]byte(x.a), []byte(x.b)) != x.want {
			t.Errorf("Below(%x, %x): %v", x.a, x.b, !x.want)
		}
	}
	if !rail.Below(nil, []byte{}) || !rail.Below([]byte{}, nil) || !rail.Below(nil, nil) {
		t.Error("no bytes lie below no bytes, nil or not")
	}
	for a := range 256 {
		for b := range 256 {
			x, y := []byte{byte(a)}, []byte{byte(b)}
			if rail.Below(x, y) != lies(x, y) {
				t.Fatalf("Below(%x, %x): %v", x, y, !lies(x, y))
			}
		}
	}
}

// P5.1: a row that is longer than the other lies neither below nor above it, whichever stands first and whatever its bytes are.
func TestBelowLonger(t *testing.T) {
	for n := range 20 {
		for more := 1; more < 5; more++ {
			for _, v := range []byte{0, 1, 0xff} {
				for _, last := range []byte{0, 0xff} {
					a := bytes.Repeat([]byte{v}, n)
					b := slices.Concat(a, bytes.Repeat([]byte{last}, more))
					if rail.Below(a, b) || rail.Below(b, a) {
						t.Fatalf("%x and %x", a, b)
					}
				}
			}
		}
	}
}

// P5.1: one bit at any place decides, and rows of any bytes are told as bit by bit; spare room behind a row is none of its bytes.
func TestBelowEachBit(t *testing.T) {
	r := rand.New(rand.NewSource(4))
	for _, n := range []int{1, 2, 7, 32, 65} {
		b := row(r, n)
		a := slices.Clone(b)
		for i := range 8 * n {
			was := b[i/8]>>(i%8)&1 == 1
			a[i/8] ^= 1 << (i % 8)
			if rail.Below(a, b) != was || rail.Below(b, a) == was {
				t.Fatalf("bit %d of %x", i, b)
			}
			a[i/8] ^= 1 << (i % 8)
		}
	}
	for range 20000 {
		n := r.Intn(4)
		a, b := row(r, n), row(r, n)
		for i := range n {
			a[i] &= b[i] | byte(1<<r.Intn(8))
		}
		if rail.Below(a, b) != lies(a, b) {
			t.Fatalf("Below(%x, %x): %v", a, b, !lies(a, b))
		}
	}
	high, low := []byte{3, 0, 9}, []byte{3, 5, 9}
	if !rail.Below(low[:1], high[:1]) || rail.Below(low[:2], high[:2]) || rail.Below(low[:1], high[:2]) {
		t.Error("spare room")
	}
}

// P5.2: of all rails of one byte, and of many of two bytes, none lies below another one.
func TestNoRightBelowAnother(t *testing.T) {
	var rows [][]byte
	for v := range 256 {
		rows = append(rows, rail.Put([]byte{byte(v)}))
	}
	for v := range 256 {
		rows = append(rows, rail.Put([]byte{byte(v) & 0x0f, byte(v) >> 4}))
	}
	for i, a := range rows {
		for j, b := range rows {
			if rail.Below(a, b) != (i == j) {
				t.Fatalf("Below(%x, %x): %v", a, b, i != j)
			}
		}
	}
}

// P5.2: right rows that are as near to each other as may be: one bit of the bytes turned.
func TestNearestRight(t *testing.T) {
	r := rand.New(rand.NewSource(5))
	for n := 1; n < 40; n++ {
		b := row(r, n)
		x := rail.Put(b)
		for i := range 8 * n {
			b[i/8] ^= 1 << (i % 8)
			y := rail.Put(b)
			if rail.Below(x, y) || rail.Below(y, x) {
				t.Fatalf("%x and %x", x, y)
			}
			b[i/8] ^= 1 << (i % 8)
		}
	}
}

// P5.2: all that lies above or below each rail of one byte: right just where it is that rail.
func TestOneWayAll(t *testing.T) {
	for v := range 256 {
		x := rail.Put([]byte{byte(v)})
		for m := range 1 << 16 {
			up := []byte{x[0] | byte(m), x[1] | byte(m>>8)}
			down := []byte{x[0] & byte(m), x[1] & byte(m>>8)}
			if !rail.Below(x, up) || !rail.Below(down, x) {
				t.Fatalf("%x does not lie between %x and %x", x, down, up)
			}
			if rail.Right(up) != bytes.Equal(up, x) || rail.Right(down) != bytes.Equal(down, x) {
				t.Fatalf("%x: %x or %x", x, up, down)
			}
		}
	}
}

// P5.2: longer right rows with any bits turned one way alone, few or many of them, in one half or in both.
func TestOneWay(t *testing.T) {
	r := rand.New(rand.NewSource(6))
	for range 3000 {
		n := 1 + r.Intn(40)
		b := row(r, n)
		x := rail.Put(b)
		up, down := slices.Clone(x), slices.Clone(x)
		from, to := 0, len(x)
		if half := r.Intn(3); half < 2 {
			from, to = half*n, half*n+n
		}
		for range 1 + r.Intn(20) {
			bit := byte(1) << r.Intn(8)
			i := from + r.Intn(to-from)
			up[i] |= bit
			down[i] &^= bit
		}
		for _, y := range [][]byte{up, down} {
			if bytes.Equal(y, x) {
				right(t, y, b)
			} else {
				wrong(t, y)
			}
		}
	}
}

// P5.2: what a program over blank bytes and an erase leave, cut at any bits: right just if the program was whole, or the erase changed nothing.
func TestCutActs(t *testing.T) {
	r := rand.New(rand.NewSource(7))
	for range 2000 {
		b := row(r, 16)
		x := rail.Put(b)
		for _, dense := range []int{1, 2, 8, 200} {
			programmed, erased := bytes.Repeat([]byte{0xff}, len(x)), slices.Clone(x)
			for i := range 8 * len(x) {
				if r.Intn(dense) == 0 {
					programmed[i/8] &= x[i/8] | ^(1 << (i % 8))
					erased[i/8] |= 1 << (i % 8)
				}
			}
			for _, y := range [][]byte{programmed, erased} {
				if !rail.Below(x, y) {
					t.Fatalf("%x does not lie below %x", x, y)
				}
				if rail.Right(y) != bytes.Equal(y, x) {
					t.Fatalf("%x, of %x", y, x)
				}
			}
		}
	}
}

// P5.3: Get of Put is the bytes, and Put of what Get tells is what was got, at any bytes.
func TestThereAndBack(t *testing.T) {
	r := rand.New(rand.NewSource(8))
	for n := range 300 {
		for _, b := range [][]byte{make([]byte, n), bytes.Repeat([]byte{0xff}, n), row(r, n)} {
			x := rail.Put(b)
			got, e := rail.Get(x)
			if e != api.OK || !bytes.Equal(got, b) {
				t.Fatalf("Get(Put(%x)): %x, %v", b, got, e)
			}
			if again := rail.Put(got); !bytes.Equal(again, want(b)) {
				t.Fatalf("Put(Get(%x)): %x", x, again)
			}
		}
	}
}

// P5.3: of any bytes, right or not: what is got is put back as it was, and nothing that could be put is refused.
func TestBackAndThere(t *testing.T) {
	r := rand.New(rand.NewSource(9))
	taken := 0
	for range 50000 {
		x := row(r, r.Intn(6))
		for i := range x {
			x[i] = -(x[i] & 1) // 00 or ff, so that some are right by chance
		}
		got, e := rail.Get(x)
		if is := len(x)%2 == 0 && bytes.Equal(want(x[:len(x)/2]), x); is != (e == api.OK) {
			t.Fatalf("Get(%x): %v", x, e)
		}
		if e == api.OK {
			taken++
			if again := rail.Put(got); !bytes.Equal(again, x) {
				t.Fatalf("Put(Get(%x)): %x", x, again)
			}
		}
	}
	if taken == 0 {
		t.Error("none was right")
	}
}

// P5.4: what is handed in is not changed, spare room included.
func TestArgumentsUnchanged(t *testing.T) {
	r := rand.New(rand.NewSource(10))
	for n := range 80 {
		rooms := [][]byte{row(r, 400), slices.Concat(want(row(r, n)), row(r, 100))}
		before := [][]byte{slices.Clone(rooms[0]), slices.Clone(rooms[1])}
		for i, x := range rooms {
			b := x[:2*n]
			rail.Put(b)
			rail.Put(b[:n])
			rail.Get(b)
			rail.Get(x[:2*n+1])
			rail.Right(b)
			rail.Below(b, rooms[1-i][:2*n])
			rail.Below(b, b)
		}
		if !bytes.Equal(rooms[0], before[0]) || !bytes.Equal(rooms[1], before[1]) {
			t.Fatalf("%d bytes: changed", n)
		}
	}
}

// P5.4: an answer is not what was handed in: either is written over, and grown into its spare room, behind the call.
func TestAnswersApart(t *testing.T) {
	r := rand.New(rand.NewSource(11))
	for n := range 80 {
		b := row(r, n)
		x := want(b)
		apart(t, b, x, rail.Put)
		apart(t, x, b, func(x []byte) []byte {
			got, _ := rail.Get(x)
			return got
		})
	}
}

// apart asks with an argument that has spare room, and holds what is told and what was handed in against what they were, the other one being written over and grown.
func apart(t *testing.T, in, want []byte, ask func([]byte) []byte) {
	t.Helper()
	spare := bytes.Repeat([]byte{0xa5}, 300)
	room := slices.Concat(in, spare)
	got := ask(room[:len(in)])
	other := ask(room[:len(in)])
	spoil(got)
	if !bytes.Equal(room, slices.Concat(in, spare)) {
		t.Fatalf("of %x: the answer written over, and the argument changed", in)
	}
	if !bytes.Equal(other, want) {
		t.Fatalf("of %x: one answer written over, and another one is %x", in, other)
	}
	last := ask(room[:len(in)])
	spoil(room)
	if !bytes.Equal(last, want) || !bytes.Equal(other, want) {
		t.Fatalf("of %x: the argument written over, and the answer is %x", in, last)
	}
	whole := slices.Clone(last[:cap(last)])
	spoil(room[:len(in)])
	spoil(other)
	if !bytes.Equal(last[:cap(last)], whole) {
		t.Fatalf("of %x: spare room of the answer changed", in)
	}
}

// spoil turns all bytes of a row, and lays others into its spare room.
func spoil(b []byte) {
	all := b[:cap(b)]
	for i := range all {
		all[i] ^= 0x5a
	}
}

// P5.4: both rows of Below may be pieces of one, and a rail may be put again.
func TestOneRowTwice(t *testing.T) {
	x := rail.Put([]byte{0x0f, 0x1f, 0x3f})
	if !rail.Below(x, x) || !rail.Below(x[:2], x[1:3]) || rail.Below(x[1:3], x[:2]) || rail.Below(x[:2], x[:3]) {
		t.Error("Below of pieces of one row")
	}
	if twice := rail.Put(x); !bytes.Equal(twice, want(x)) {
		t.Errorf("Put(%x): %x", x, twice)
	}
}

// R4: an answer hangs on the arguments alone, whoever else is asking at that time.
func TestManyAtOneTime(t *testing.T) {
	b := row(rand.New(rand.NewSource(12)), 5000)
	x := want(b)
	var all sync.WaitGroup
	var bad [8]bool
	for i := range bad {
		all.Go(func() {
			for range 20 {
				got, e := rail.Get(x)
				bad[i] = bad[i] || e != api.OK || !bytes.Equal(got, b) || !bytes.Equal(rail.Put(b), x) || !rail.Right(x) || rail.Right(x[2:]) || !rail.Below(x, x)
			}
		})
	}
	all.Wait()
	if bad != [8]bool{} {
		t.Errorf("%v", bad)
	}
}
