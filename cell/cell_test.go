package cell_test

import (
	"bytes"
	"encoding/binary"
	"encoding/hex"
	"hash/crc32"
	"math"
	"math/rand"
	"slices"
	"sync"
	"testing"

	"portcullis/api"
	"portcullis/cell"
	"portcullis/chip"
	"portcullis/rail"
)

const most = int64(1) << 62

// torn and blank are all that Read may tell of such cells.
var (
	torn  = api.Record{Kind: api.CellTorn}
	blank = api.Record{Kind: api.CellBlank}
)

// numbers are edges, what lies about each power of two, and rows of unlike bytes.
func numbers() []int64 {
	ns := []int64{1, 2, 3, 258, most, most - 1, 0x0102030405060708, 0x3807060504030201, 0x00ff00ff00ff00ff}
	for i := 1; i < 62; i++ {
		ns = append(ns, 1<<i-1, 1<<i, 1<<i+1)
	}
	return ns
}

// summed lays twelve bytes, their sum as the library reckons it, and the complement of all of them into a cell.
func summed(front []byte) api.Cell {
	return railed(binary.LittleEndian.AppendUint32(slices.Clone(front), crc32.ChecksumIEEE(front)))
}

// railed lays sixteen bytes and their complement into a cell.
func railed(b []byte) api.Cell {
	var c api.Cell
	for i, x := range b {
		c[i], c[16+i] = x, 255-x
	}
	return c
}

// front is what stands ahead of the sum.
func front(kind, slot byte, n uint64) []byte {
	return binary.LittleEndian.AppendUint64([]byte{kind, slot, 0, 0}, n)
}

func head(n int64) api.Cell { return summed(front(1, 0, uint64(n))) }

func value(slot int, n int64) api.Cell { return summed(front(2, byte(slot), uint64(n))) }

// says is Read as the chapter's words have it.
func says(c api.Cell) api.Record {
	if bytes.Count(c[:], []byte{0xff}) == 32 {
		return blank
	}
	n := binary.LittleEndian.Uint64(c[4:12])
	if c != summed(c[:12]) || c[2] != 0 || c[3] != 0 || n == 0 || n > 1<<62 {
		return torn
	}
	switch {
	case c[0] == 1 && c[1] == 0:
		return api.Record{Kind: api.CellHead, Number: int64(n)}
	case c[0] == 2 && c[1] <= 8:
		return api.Record{Kind: api.CellValue, Slot: int(c[1]), Number: int64(n)}
	}
	return torn
}

func turned(c api.Cell, bit int) api.Cell {
	c[bit/8] ^= 1 << (bit % 8)
	return c
}

func reads(t *testing.T, c api.Cell, want api.Record) {
	t.Helper()
	if got := cell.Read(c); got != want {
		t.Fatalf("Read(%x): %v, want %v", c, got, want)
	}
}

func made(t *testing.T, c api.Cell, e api.Errno, want api.Cell) {
	t.Helper()
	if c != want || e != api.OK {
		t.Fatalf("%x, %v, want %x", c, e, want)
	}
}

func refused(t *testing.T, c api.Cell, e api.Errno) {
	t.Helper()
	if e != api.ErrRange || c != (api.Cell{}) {
		t.Fatalf("%x, %v, want ErrRange and nothing", c, e)
	}
}

// some are right cells of all kinds and slots.
func some() []api.Cell {
	cs := []api.Cell{head(1), head(2), head(most), head(0x0102030405060708)}
	for slot := range 9 {
		cs = append(cs, value(slot, 1), value(slot, most), value(slot, int64(77*slot+255)))
	}
	return cs
}

// The numbers by which the document names the limit and the error.
func TestNumbers(t *testing.T) {
	if api.ErrRange != 2 || api.MaxSlots != 8 || api.OK != 0 || len(api.Cell{}) != 32 {
		t.Error("a limit or an error has another number")
	}
	kinds := map[int]bool{api.CellBlank: true, api.CellHead: true, api.CellValue: true, api.CellTorn: true}
	if len(kinds) != 4 {
		t.Error("two kinds have one number")
	}
}

// P6.1, P6.2: the examples of the chapter.
func TestExamples(t *testing.T) {
	for _, x := range []struct {
		record api.Record
		body   string
	}{
		{api.Record{Kind: api.CellHead, Number: 1}, "0100000001000000000000009e8ada2c"},
		{api.Record{Kind: api.CellValue, Slot: 8, Number: 258}, "0208000002010000000000007cb57fc9"},
	} {
		body, _ := hex.DecodeString(x.body)
		c, e := again(x.record)
		made(t, c, e, railed(body))
		reads(t, c, x.record)
		for bit := range 256 {
			reads(t, turned(c, bit), torn)
		}
	}
	for _, n := range []int64{0, most + 1} {
		c, e := cell.Head(n)
		refused(t, c, e)
	}
	for _, x := range []struct {
		slot int
		n    int64
	}{{9, 1}, {-1, 1}, {0, 0}} {
		c, e := cell.Value(x.slot, x.n)
		refused(t, c, e)
	}
	reads(t, api.Cell{}, torn)
	reads(t, api.Cell(bytes.Repeat([]byte{0xff}, 32)), blank)
}

// again asks for the cell of a record.
func again(r api.Record) (api.Cell, api.Errno) {
	if r.Kind == api.CellHead {
		return cell.Head(r.Number)
	}
	return cell.Value(r.Slot, r.Number)
}

// P6.1: heads and values of all slots, of numbers at the edges and about each power of two, byte by byte.
func TestRightOnes(t *testing.T) {
	for _, n := range numbers() {
		c, e := cell.Head(n)
		made(t, c, e, head(n))
		for slot := range 9 {
			c, e := cell.Value(slot, n)
			made(t, c, e, value(slot, n))
		}
	}
	r := rand.New(rand.NewSource(1))
	for range 5000 {
		n, slot := 1+r.Int63n(most), r.Intn(9)
		c, e := cell.Head(n)
		made(t, c, e, head(n))
		c, e = cell.Value(slot, n)
		made(t, c, e, value(slot, n))
	}
}

// P6.1: generations and numbers of 0, below 0 and above 2^62.
func TestWrongNumbers(t *testing.T) {
	ns := []int64{0, -1, -2, -256, -most, -most - 1, math.MinInt64, math.MinInt64 + 1, most + 1, most + 2, math.MaxInt64, math.MaxInt64 - 1}
	for _, n := range numbers() {
		ns = append(ns, -n)
	}
	for _, n := range ns {
		c, e := cell.Head(n)
		refused(t, c, e)
		for slot := -1; slot < 11; slot++ {
			c, e := cell.Value(slot, n)
			refused(t, c, e)
		}
	}
}

// P6.1: slots below 0 and above MaxSlots, those among them of which one byte would be a right slot.
func TestWrongSlots(t *testing.T) {
	slots := []int{-1, -2, -8, -248, -255, -256, api.MaxSlots + 1, 255, math.MinInt, math.MaxInt, math.MinInt32, math.MaxInt32}
	for slot := 9; slot < 600; slot++ {
		slots = append(slots, slot)
	}
	for i := 8; i < 63; i++ {
		slots = append(slots, 1<<i, 1<<i+1, -1<<i, -1<<i+8)
	}
	for _, slot := range slots {
		for _, n := range []int64{1, 2, most, 0, -1} {
			c, e := cell.Value(slot, n)
			refused(t, c, e)
		}
	}
}

// P6.1: the blank cell, asked more than once, an earlier answer written over.
func TestBlank(t *testing.T) {
	for range 3 {
		b := cell.Blank()
		if b != api.Cell(bytes.Repeat([]byte{0xff}, 32)) {
			t.Fatalf("%x", b)
		}
		reads(t, b, blank)
		clear(b[:])
	}
}

// P6.2: a cell that is blank but for any bits is none, and neither is one of any other byte everywhere.
func TestNearlyBlank(t *testing.T) {
	for bit := range 256 {
		reads(t, turned(cell.Blank(), bit), torn)
		for other := range bit {
			reads(t, turned(turned(cell.Blank(), bit), other), torn)
		}
	}
	for v := range 255 {
		reads(t, api.Cell(bytes.Repeat([]byte{byte(v)}, 32)), torn)
	}
	for i := 1; i < 32; i++ {
		reads(t, api.Cell(slices.Concat(bytes.Repeat([]byte{0xff}, i), make([]byte, 32-i))), torn)
		reads(t, api.Cell(slices.Concat(make([]byte, i), bytes.Repeat([]byte{0xff}, 32-i))), torn)
	}
}

// P6.2: all kinds, sum and complement being right.
func TestEachKind(t *testing.T) {
	for kind := range 256 {
		for slot := range 10 {
			for _, n := range []int64{1, 258, most} {
				c := summed(front(byte(kind), byte(slot), uint64(n)))
				switch {
				case kind == 1 && slot == 0:
					reads(t, c, api.Record{Kind: api.CellHead, Number: n})
				case kind == 2 && slot < 9:
					reads(t, c, api.Record{Kind: api.CellValue, Slot: slot, Number: n})
				default:
					reads(t, c, torn)
				}
			}
		}
	}
}

// P6.2: a head whose slot is not 00, and values of all slots that a byte can tell.
func TestEachSlot(t *testing.T) {
	for slot := range 256 {
		for _, n := range []int64{1, 7, most} {
			want := torn
			if slot < 9 {
				want = api.Record{Kind: api.CellValue, Slot: slot, Number: n}
			}
			reads(t, value(slot, n), want)
			if slot > 0 {
				reads(t, summed(front(1, byte(slot), uint64(n))), torn)
			}
		}
	}
}

// P6.2: the bytes that must be 00 being others, sum and complement being right.
func TestBytesBetween(t *testing.T) {
	for kind := byte(1); kind < 3; kind++ {
		for v := 1; v < 1<<16; v++ {
			f := front(kind, 0, 5)
			f[2], f[3] = byte(v), byte(v>>8)
			reads(t, summed(f), torn)
		}
	}
}

// P6.2: numbers that may not be, sum and complement being right.
func TestEachNumber(t *testing.T) {
	wrong := []uint64{0, 1<<62 + 1, 1<<62 + 2, 1<<63 - 1, 1 << 63, 1<<63 + 1, 1<<64 - 1, 1<<63 + 1<<62, 3 << 61}
	r := rand.New(rand.NewSource(2))
	for range 1000 {
		wrong = append(wrong, 1<<62+1+r.Uint64()%(3<<62-1))
	}
	for _, n := range wrong {
		reads(t, summed(front(1, 0, n)), torn)
		for slot := range 9 {
			reads(t, summed(front(2, byte(slot), n)), torn)
		}
	}
	for _, n := range numbers() {
		reads(t, head(n), api.Record{Kind: api.CellHead, Number: n})
		reads(t, value(8, n), api.Record{Kind: api.CellValue, Slot: 8, Number: n})
	}
}

// P6.2: a sum that is wrong, by each bit, by any others, in the other order of its bytes, or 0; the complement being right.
func TestWrongSum(t *testing.T) {
	r := rand.New(rand.NewSource(3))
	for _, c := range some() {
		right := binary.LittleEndian.Uint32(c[12:16])
		sums := []uint32{0, 1<<32 - 1, ^right, right + 1, right - 1, binary.BigEndian.Uint32(c[12:16])}
		for bit := range 32 {
			sums = append(sums, right^1<<bit)
		}
		for range 2000 {
			sums = append(sums, r.Uint32())
		}
		for _, s := range sums {
			if s != right {
				reads(t, railed(binary.LittleEndian.AppendUint32(slices.Clone(c[:12]), s)), torn)
			}
		}
	}
}

// P6.2: a complement that is wrong by one bit, or in any byte.
func TestWrongComplement(t *testing.T) {
	for _, c := range some() {
		for i := 16; i < 32; i++ {
			for turn := 1; turn < 256; turn++ {
				x := c
				x[i] ^= byte(turn)
				reads(t, x, torn)
			}
		}
		x := c
		copy(x[16:], c[:16])
		reads(t, x, torn)
		copy(x[:16], c[16:])
		copy(x[16:], c[:16])
		reads(t, x, torn)
	}
}

// P6.2: right cells with any one or two bits turned, and with up to three bits of the body turned and the complement along with them.
func TestFewBitsTurned(t *testing.T) {
	for _, c := range []api.Cell{head(1), head(most), value(0, 1), value(8, 258)} {
		for i := range 256 {
			reads(t, turned(c, i), torn)
			for j := range i {
				reads(t, turned(turned(c, i), j), torn)
			}
		}
	}
	both := func(c api.Cell, bit int) api.Cell { return turned(turned(c, bit), 128+bit) }
	c := value(3, 77)
	for i := range 128 {
		one := both(c, i)
		reads(t, one, torn)
		for j := range i {
			two := both(one, j)
			reads(t, two, torn)
			for k := range j {
				reads(t, both(two, k), torn)
			}
		}
	}
}

// P6.2: bodies of any few bytes at each place, their sum right or not: as the chapter's words have it.
func TestAnyBody(t *testing.T) {
	r := rand.New(rand.NewSource(4))
	kinds := map[int]int{}
	for range 200000 {
		f := front(byte(r.Intn(4)), byte(r.Intn(11)), uint64(r.Int63())<<1>>r.Intn(64))
		f[2+r.Intn(2)] = byte(r.Intn(8) / 7)
		c := summed(f)
		if r.Intn(8) == 0 {
			c = turned(c, r.Intn(256))
		}
		want := says(c)
		kinds[want.Kind]++
		reads(t, c, want)
	}
	if kinds[api.CellHead] < 1000 || kinds[api.CellValue] < 1000 || kinds[api.CellTorn] < 1000 {
		t.Errorf("%v", kinds)
	}
	for range 100000 {
		var c api.Cell
		r.Read(c[:])
		reads(t, c, torn)
		copy(c[16:], rail.Put(c[:16])[16:])
		reads(t, c, says(c))
	}
}

// P6.3: Read of Head and of Value tells what they were told.
func TestThereAndBack(t *testing.T) {
	r := rand.New(rand.NewSource(5))
	ns := numbers()
	for range 5000 {
		ns = append(ns, 1+r.Int63n(most)>>r.Intn(62))
	}
	for _, n := range ns {
		c, e := cell.Head(n)
		if got := cell.Read(c); e != api.OK || got != (api.Record{Kind: api.CellHead, Number: n}) {
			t.Fatalf("Head(%d): %v, %v", n, e, got)
		}
		for slot := range 9 {
			c, e := cell.Value(slot, n)
			if got := cell.Read(c); e != api.OK || got != (api.Record{Kind: api.CellValue, Slot: slot, Number: n}) {
				t.Fatalf("Value(%d, %d): %v, %v", slot, n, e, got)
			}
		}
	}
}

// P6.3: of whatever reads as a head or a value, Head or Value of that tells that very cell.
func TestBackAndThere(t *testing.T) {
	r := rand.New(rand.NewSource(6))
	right := 0
	for range 100000 {
		f := front(byte(1+r.Intn(2)), byte(r.Intn(3)*r.Intn(6)), r.Uint64()>>r.Intn(64))
		c := summed(f)
		got := cell.Read(c)
		if got.Kind != api.CellHead && got.Kind != api.CellValue {
			continue
		}
		right++
		x, e := again(got)
		made(t, x, e, c)
	}
	if right < 10000 {
		t.Errorf("%d were right", right)
	}
}

// left says whether what an act has left of a right cell reads as it may.
func left(t *testing.T, x, c api.Cell) {
	t.Helper()
	switch x {
	case c:
		reads(t, x, says(c))
	case cell.Blank():
		reads(t, x, blank)
	default:
		reads(t, x, torn)
	}
}

// masks are some of one byte, of one bit done and of one bit left out, and of any bytes, few or many of their bits being 1.
func masks(r *rand.Rand) [][]byte {
	ms := [][]byte{nil, {}, {0xff}, {0}, {0x0f}, {0xf0}, {0xff, 0}, {0, 0xff}}
	for bit := range 256 {
		one, rest := api.Cell{}, cell.Blank()
		one, rest = turned(one, bit), turned(rest, bit)
		ms = append(ms, one[:], rest[:])
	}
	for range 200 {
		m := make([]byte, 1+r.Intn(40))
		dense := 1 + r.Intn(60)
		for i := range 8 * len(m) {
			if r.Intn(61) < dense {
				m[i/8] |= 1 << (i % 8)
			}
		}
		ms = append(ms, m)
	}
	return ms
}

// done is the mask's byte for the byte i of a cell.
func done(mask []byte, i int) byte {
	if len(mask) == 0 {
		return 0
	}
	return mask[i%len(mask)]
}

// P6.4: what a program of a right cell over a blank one leaves, and an erase of a right cell, cut with masks of any bits, reckoned by the document's words.
func TestCut(t *testing.T) {
	r := rand.New(rand.NewSource(7))
	for _, c := range some() {
		for _, m := range masks(r) {
			programmed, erased := cell.Blank(), c
			for i := range c {
				programmed[i] &= c[i] | ^done(m, i)
				erased[i] |= done(m, i)
			}
			left(t, programmed, c)
			left(t, erased, c)
		}
	}
}

// P6.4: any bits of the body alone, or of its complement alone, and all but a few at its end: a cut between two bytes or two bits.
func TestCutInOrder(t *testing.T) {
	for _, c := range some() {
		up, down := cell.Blank(), cell.Blank()
		erasedUp, erasedDown := c, c
		for i := range 256 {
			low, high := byte(1)<<(i%8), byte(1)<<((255-i)%8)
			up[i/8] &= c[i/8] | ^low
			down[(255-i)/8] &= c[(255-i)/8] | ^high
			erasedUp[i/8] |= low
			erasedDown[(255-i)/8] |= high
			for _, x := range []api.Cell{up, down, erasedUp, erasedDown} {
				left(t, x, c)
			}
		}
		if up != c || down != c || erasedUp != cell.Blank() || erasedDown != cell.Blank() {
			t.Fatalf("%x was not gone through", c)
		}
	}
}

// P6.4: the same on a chip, whose power goes at the act: the program, the erase, and a second erase of what the first one has left.
func TestCutOnChip(t *testing.T) {
	r := rand.New(rand.NewSource(8))
	for _, c := range some()[:8] {
		for _, m := range masks(r) {
			flash, e := chip.New(api.Config{Cells: 4, Slots: 1, Fuses: 1, Step: 1, Keys: 1, Erases: 9})
			if e != api.OK {
				t.Fatal(e)
			}
			at := r.Intn(3)
			flash.Cut(0, m)
			flash.Program(0, at, c)
			flash.Restore()
			x, _ := flash.Read(0, at)
			left(t, x, c)

			flash.Program(1, at, c)
			x, _ = flash.Read(1, at)
			reads(t, x, says(c))
			for range 2 {
				flash.Cut(0, m)
				flash.Erase(1)
				flash.Restore()
				x, _ = flash.Read(1, at)
				left(t, x, c)
				m = []byte{byte(r.Intn(256)), byte(r.Intn(256)), byte(r.Intn(256))}
			}
			flash.Erase(1)
			x, _ = flash.Read(1, at)
			reads(t, x, blank)
		}
	}
}

// P6.4: of two unlike right cells each has a bit that is 1 where the other's is 0.
func TestNoneBelowAnother(t *testing.T) {
	var all []api.Cell
	for _, n := range numbers() {
		c, _ := cell.Head(n)
		all = append(all, c)
		for slot := range 9 {
			c, _ := cell.Value(slot, n)
			all = append(all, c)
		}
	}
	slices.SortFunc(all, func(a, b api.Cell) int { return bytes.Compare(a[:], b[:]) })
	all = slices.Compact(all)
	for i, a := range all {
		for j, b := range all {
			if below(a, b) != (i == j) {
				t.Fatalf("%x and %x", a, b)
			}
		}
	}
}

// below says whether no bit of a is 1 where b's is 0.
func below(a, b api.Cell) bool {
	for i := range a {
		if a[i]&^b[i] != 0 {
			return false
		}
	}
	return true
}

// P6.4: a right cell programmed over another one, whole or cut, reads as neither but where it is the one that was there.
func TestOneOverAnother(t *testing.T) {
	r := rand.New(rand.NewSource(9))
	all := some()
	for i, a := range all {
		for j, b := range all {
			if i == j {
				continue
			}
			for range 20 {
				m := byte(r.Intn(256))
				x := a
				for k := range x {
					x[k] &= b[k] | ^m
				}
				want := torn
				if x == a {
					want = says(a)
				}
				reads(t, x, want)
			}
		}
	}
}

// R3: a cell that was told stays as it is, whatever is done to it and told behind it.
func TestAnswersApart(t *testing.T) {
	for _, r := range []api.Record{{Kind: api.CellHead, Number: 9}, {Kind: api.CellValue, Slot: 4, Number: 9}} {
		first, _ := again(r)
		kept := first
		clear(first[:])
		cell.Head(1)
		cell.Value(8, most)
		cell.Read(first)
		second, e := again(r)
		made(t, second, e, kept)
		reads(t, kept, r)
	}
}

// R4: an answer hangs on the arguments alone, whoever else is asking at that time.
func TestManyAtOneTime(t *testing.T) {
	var all sync.WaitGroup
	var bad [8]bool
	for i := range bad {
		all.Go(func() {
			for n := int64(1); n < 3000; n++ {
				h, eh := cell.Head(n)
				v, ev := cell.Value(i, n)
				bad[i] = bad[i] || eh != api.OK || ev != api.OK || h != head(n) || v != value(i, n)
				bad[i] = bad[i] || cell.Read(h) != says(h) || cell.Read(v) != says(v) || cell.Read(cell.Blank()) != blank || cell.Read(turned(v, i)) != torn
			}
		})
	}
	all.Wait()
	if bad != [8]bool{} {
		t.Errorf("%v", bad)
	}
}
