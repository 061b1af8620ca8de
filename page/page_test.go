package page_test

import (
	"bytes"
	"encoding/binary"
	"hash/crc32"
	"math"
	"math/rand"
	"reflect"
	"slices"
	"sync"
	"testing"

	"portcullis/api"
	"portcullis/cell"
	"portcullis/chip"
	"portcullis/page"
)

const most = int64(1) << 62

// small has the least of all, and no areas.
func small() api.Config {
	return api.Config{Cells: 4, Slots: 1, Fuses: 1, Step: 1, Keys: 1, Erases: 9}
}

// roomy has areas, and fewer slots than records may tell of.
func roomy() api.Config {
	return api.Config{Cells: 7, Slots: 2, Fuses: 2, Step: 3, Keys: 2, Erases: 99, Area: 2}
}

func greatest() api.Config {
	return api.Config{Cells: api.MaxCells, Slots: api.MaxSlots, Fuses: api.MaxFuses, Step: api.MaxStep, Keys: api.MaxKeys, Erases: api.MaxErases, Area: api.MaxArea}
}

func configs() []api.Config {
	worn := small()
	worn.Erases = 0
	return []api.Config{small(), worn, roomy(), greatest()}
}

func made(t *testing.T, g api.Config) *chip.Chip {
	t.Helper()
	c, e := chip.New(g)
	if e != api.OK {
		t.Fatalf("New(%+v): %v", g, e)
	}
	return c
}

// filled is a chip that holds these cells in a page, and something else in all others.
func filled(t *testing.T, g api.Config, at int, cells []api.Cell) *chip.Chip {
	t.Helper()
	s := made(t, g).State()
	for p := range s.Pages {
		for i := range s.Pages[p] {
			s.Pages[p][i] = value((p+i)%9, most-int64(i))
		}
		s.Pages[p][0] = head(most - int64(p))
	}
	copy(s.Pages[at], cells)
	c, e := chip.Lay(g, s)
	if e != api.OK {
		t.Fatalf("Lay(%+v): %v", g, e)
	}
	return c
}

// blanks are so many blank cells.
func blanks(n int) []api.Cell {
	return slices.Repeat([]api.Cell{all(0xff)}, n)
}

func all(v byte) api.Cell { return api.Cell(bytes.Repeat([]byte{v}, 32)) }

// summed lays twelve bytes, their sum as the library reckons it, and the complement of all of them into a cell.
func summed(front []byte) api.Cell {
	var c api.Cell
	b := binary.LittleEndian.AppendUint32(slices.Clone(front), crc32.ChecksumIEEE(front))
	for i, x := range b {
		c[i], c[16+i] = x, 255-x
	}
	return c
}

func front(kind, slot byte, n uint64) []byte {
	return binary.LittleEndian.AppendUint64([]byte{kind, slot, 0, 0}, n)
}

func head(n int64) api.Cell { return summed(front(1, 0, uint64(n))) }

func value(slot int, n int64) api.Cell { return summed(front(2, byte(slot), uint64(n))) }

func turned(c api.Cell, bit int) api.Cell {
	c[bit/8] ^= 1 << (bit % 8)
	return c
}

// wrong are cells that are neither blank nor right, each in another way.
func wrong() []api.Cell {
	odd := front(2, 0, 5)
	odd[2] = 1
	return []api.Cell{
		all(0), all(0x0f), all(0xf0), all(0xfe), turned(all(0xff), 0), turned(all(0xff), 255),
		turned(head(3), 0), turned(head(3), 255), turned(value(0, 9), 32), turned(value(8, 9), 130),
		summed(front(0, 0, 5)), summed(front(3, 0, 5)), summed(front(1, 1, 5)), summed(front(255, 0, 5)),
		summed(front(1, 0, 0)), summed(front(1, 0, 1<<62+1)), summed(front(1, 0, 1<<63)), summed(front(1, 0, 1<<64-1)),
		value(0, 0), value(0, most+1), value(0, -1), value(8, math.MinInt64), summed(odd),
		value(9, 1), value(9, most), value(10, 7), value(16, 7), value(255, 7), value(128, 7),
	}
}

// wanted is what a page says, by the chapter's words, of which each is gone through by itself.
func wanted(cells []api.Cell) page.Info {
	var want page.Info
	blank := func(c api.Cell) bool { return c == all(0xff) }
	if c := cells[0]; isHead(c) {
		want.Head = number(c)
	}
	for slot := range want.Numbers {
		for _, c := range cells[1:] {
			if isValue(c) && int(c[1]) == slot && number(c) > want.Numbers[slot] {
				want.Numbers[slot] = number(c)
			}
		}
	}
	for next := len(cells); next > 0 && want.Next == 0; next-- {
		if !blank(cells[next-1]) {
			want.Next = next
		}
	}
	want.Blank = !slices.ContainsFunc(cells, func(c api.Cell) bool { return !blank(c) })
	for _, c := range cells {
		if !blank(c) && !isHead(c) && !isValue(c) {
			want.Torn++
		}
	}
	return want
}

func number(c api.Cell) int64 { return int64(binary.LittleEndian.Uint64(c[4:12])) }

func isHead(c api.Cell) bool {
	return 1 <= number(c) && number(c) <= most && c == head(number(c))
}

func isValue(c api.Cell) bool {
	return 1 <= number(c) && number(c) <= most && c[1] <= 8 && c == value(int(c[1]), number(c))
}

// sound says, bit by bit, whether in none of a page's cells a bit and its complement are both 0.
func sound(cells []api.Cell) bool {
	for _, c := range cells {
		for bit := range 128 {
			low, high := c[bit/8]>>(bit%8)&1, c[16+bit/8]>>(bit%8)&1
			if low == 0 && high == 0 {
				return false
			}
		}
	}
	return true
}

func says(t *testing.T, what string, c *chip.Chip, at int, want page.Info) {
	t.Helper()
	if got, e := page.Look(c, at); got != want || e != api.OK {
		t.Fatalf("%s: Look(%d): %+v %v, want %+v", what, at, got, e, want)
	}
}

func refused(t *testing.T, c *chip.Chip, at int, want api.Errno) {
	t.Helper()
	acts, held := c.Acts(), c.State()
	if got, e := page.Look(c, at); got != (page.Info{}) || e != want {
		t.Fatalf("Look(%d): %+v %v, want nothing and %v", at, got, e, want)
	}
	if c.Acts() != acts || !reflect.DeepEqual(c.State(), held) {
		t.Fatalf("Look(%d) has changed the chip", at)
	}
}

// laid programs the cells of a page that aren't blank, one by one, and holds Look against the words behind each.
func laid(t *testing.T, c *chip.Chip, at int, cells []api.Cell) {
	t.Helper()
	for i, x := range cells {
		if x == all(0xff) {
			continue
		}
		if e := c.Program(at, i, x); e != api.OK {
			t.Fatalf("Program(%d, %d): %v", at, i, e)
		}
		says(t, "programmed", c, at, wanted(c.State().Pages[at]))
	}
}

// The numbers by which the document names the errors and the limit.
func TestNumbers(t *testing.T) {
	if api.OK != 0 || api.ErrRange != 2 || api.ErrPower != 8 || api.MaxSlots != 8 || len(page.Info{}.Numbers) != 9 {
		t.Error("an error or a limit has another number")
	}
}

// P8.1: the chapter's examples.
func TestExamples(t *testing.T) {
	c := made(t, roomy())
	says(t, "blank", c, 0, page.Info{Blank: true})

	laid(t, c, 0, []api.Cell{head(3), value(1, 7), value(1, 5), all(0), value(0, 2)})
	want := page.Info{Head: 3, Next: 5, Torn: 1}
	want.Numbers = [9]int64{2, 7}
	says(t, "example 1", c, 0, want)

	laid(t, c, 1, []api.Cell{all(0xff), all(0xff), head(3)})
	says(t, "a head in the cell 2 alone", c, 1, page.Info{Next: 3})

	laid(t, c, 5, []api.Cell{value(0, 9)})
	says(t, "a value in the cell 0 alone", c, 5, page.Info{Next: 1})
}

// P8.1: any page of a chip may be looked at, and tells what lies in it, not what lies in others; one ahead of the first and one behind the last are none.
func TestEachPage(t *testing.T) {
	for _, area := range []int{0, 1, 2, api.MaxArea} {
		g := small()
		g.Area = area
		c := made(t, g)
		pages := 2 + 2*area
		for p := range pages {
			laid(t, c, p, []api.Cell{head(int64(p + 1)), value(p%9, int64(p+100))})
		}
		for p := range pages {
			want := page.Info{Head: int64(p + 1), Next: 2}
			want.Numbers[p%9] = int64(p + 100)
			says(t, "a page of its own", c, p, want)
		}
		for _, p := range []int{-1, -2, -pages, pages, pages + 1, 2 * pages, math.MinInt, math.MaxInt, 1 << 32, -1 << 32, 1 << 62, -1 << 62} {
			refused(t, c, p, api.ErrRange)
		}
	}
}

// P8.1: a blank page, at first, behind an erase, and behind programs that lay nothing; one that is blank but for one bit anywhere is none.
func TestBlank(t *testing.T) {
	for _, g := range configs() {
		c := made(t, g)
		for p := range 2 + 2*g.Area {
			says(t, "at first", c, p, page.Info{Blank: true})
		}
		c.Program(0, 0, all(0xff))
		c.Program(0, g.Cells-1, all(0xff))
		says(t, "nothing laid", c, 0, page.Info{Blank: true})
		for _, i := range []int{0, 1, g.Cells / 2, g.Cells - 1} {
			cells := blanks(g.Cells)
			cells[i] = turned(cells[i], 7*i%256)
			says(t, "blank but for one bit", filled(t, g, 1, cells), 1, page.Info{Next: i + 1, Torn: 1})
		}
	}
	for bit := range 4 * 256 {
		cells := blanks(4)
		cells[bit/256] = turned(cells[bit/256], bit%256)
		says(t, "blank but for one bit", filled(t, small(), 0, cells), 0, page.Info{Next: bit/256 + 1, Torn: 1})
	}
	c := made(t, small())
	laid(t, c, 1, []api.Cell{head(1), value(8, 1), all(0), value(0, 1)})
	if e := c.Erase(1); e != api.OK {
		t.Fatal(e)
	}
	says(t, "erased", c, 1, page.Info{Blank: true})
}

// P8.1: a head counts in the cell 0, whatever its generation, and nowhere else, beside one in the cell 0 or without.
func TestHeads(t *testing.T) {
	for _, g := range configs() {
		for _, n := range []int64{1, 2, 255, 256, 1 << 31, 1 << 32, most - 1, most} {
			for i := range g.Cells {
				if g.Cells > 50 && i%51 != 0 {
					continue
				}
				cells := blanks(g.Cells)
				cells[i] = head(n)
				want := page.Info{Next: i + 1}
				if i == 0 {
					want.Head = n
				}
				says(t, "one head", filled(t, g, 0, cells), 0, want)
				cells[0] = head(7)
				if i > 0 {
					says(t, "two heads", filled(t, g, 0, cells), 0, page.Info{Head: 7, Next: i + 1})
				}
			}
		}
	}
	says(t, "heads alone", filled(t, small(), 1, []api.Cell{head(2), head(3), head(1), head(most)}), 1, page.Info{Head: 2, Next: 4})
}

// P8.1: a value counts everywhere but in the cell 0, of each slot from 0 to MaxSlots, however many slots the config has.
func TestValues(t *testing.T) {
	for _, g := range []api.Config{small(), roomy()} {
		for slot := range api.MaxSlots + 1 {
			for _, n := range []int64{1, 2, 255, 256, 1 << 31, 1 << 32, most - 1, most} {
				for i := range g.Cells {
					cells := blanks(g.Cells)
					cells[i] = value(slot, n)
					want := page.Info{Next: i + 1}
					if i > 0 {
						want.Numbers[slot] = n
					}
					says(t, "one value", filled(t, g, 1, cells), 1, want)
				}
			}
		}
	}
}

// P8.1: of a slot beyond MaxSlots there is no record: its cell is torn, though its sum and its complement are right.
func TestSlotsBeyond(t *testing.T) {
	for slot := api.MaxSlots + 1; slot < 256; slot++ {
		for i := range 4 {
			cells := []api.Cell{head(4), value(8, 2), value(0, 1), value(7, 3)}
			cells[i] = value(slot, most)
			want := wanted(cells)
			if want.Torn != 1 || slices.Contains(want.Numbers[:], most) {
				t.Fatalf("%+v", want)
			}
			says(t, "a slot beyond", filled(t, small(), 0, cells), 0, want)
		}
	}
}

// P8.1: of several values of one slot the greatest one counts, be they rising, falling or in any order; other slots' are told by themselves.
func TestSeveralOfOneSlot(t *testing.T) {
	rows := [][]int64{{1, 2, 3, 4, 5, 6}, {6, 5, 4, 3, 2, 1}, {3, 6, 1, 5, 2, 4}, {5, 5, 5, 5, 5, 5}, {most, 1, most - 1, 2, 1, 1}, {1, 1, 1, 1, 1, most}, {255, 256, 257, 1 << 32, 1<<32 - 1, 1}}
	for slot := range api.MaxSlots + 1 {
		for _, row := range rows {
			cells := []api.Cell{value(slot, most)}
			for _, n := range row {
				cells = append(cells, value(slot, n))
			}
			want := page.Info{Next: 7}
			want.Numbers[slot] = slices.Max(row)
			says(t, "one slot", filled(t, roomy(), 0, cells), 0, want)

			other := (slot + 1) % 9
			cells[0], cells[2], cells[5] = head(9), value(other, 4), value(other, 3)
			want = page.Info{Head: 9, Next: 7}
			want.Numbers[slot] = max(row[0], row[2], row[3], row[5])
			want.Numbers[other] = 4
			says(t, "two slots", filled(t, roomy(), 0, cells), 0, want)
		}
	}
}

// P8.1: torn cells of each kind, at each place, the cell 0 and the last one among them, alone and beside right records, which count on.
func TestTorn(t *testing.T) {
	for _, x := range wrong() {
		for i := range 4 {
			cells := blanks(4)
			cells[i] = x
			says(t, "torn alone", filled(t, small(), 0, cells), 0, page.Info{Next: i + 1, Torn: 1})

			cells = []api.Cell{head(5), value(1, 8), value(2, 9), value(3, 10)}
			cells[i] = x
			want := page.Info{Head: 5, Numbers: [9]int64{0, 8, 9, 10}, Next: 4, Torn: 1}
			if i == 0 {
				want.Head = 0
			}
			want.Numbers[i] = 0
			says(t, "torn beside others", filled(t, small(), 0, cells), 0, want)
		}
		for n := range 5 {
			cells := slices.Concat(slices.Repeat([]api.Cell{x}, n), blanks(4-n))
			says(t, "several torn", filled(t, small(), 1, cells), 1, page.Info{Next: n, Blank: n == 0, Torn: n})
		}
		says(t, "torn at both ends", filled(t, small(), 1, []api.Cell{x, all(0xff), all(0xff), x}), 1, page.Info{Next: 4, Torn: 2})
	}
}

// P8.1: a page that is full, of right records or torn cells, of the least and of the greatest number of cells; and one with a cell less.
func TestFull(t *testing.T) {
	for _, g := range configs() {
		cells := []api.Cell{head(6)}
		for i := 1; i < g.Cells; i++ {
			cells = append(cells, value(i%9, int64(i)))
		}
		want := wanted(cells)
		if want.Head != 6 || want.Next != g.Cells || want.Torn != 0 || want.Blank {
			t.Fatalf("%+v", want)
		}
		says(t, "full", filled(t, g, 1, cells), 1, want)

		cells[g.Cells-1] = all(0xff)
		want = wanted(cells)
		if want.Next != g.Cells-1 {
			t.Fatalf("%+v", want)
		}
		says(t, "one cell less", filled(t, g, 1, cells), 1, want)

		cells = slices.Repeat([]api.Cell{all(0)}, g.Cells)
		says(t, "all torn", filled(t, g, 1, cells), 1, page.Info{Next: g.Cells, Torn: g.Cells})
	}
}

// P8.1: Next is the place behind the last cell that is not blank, wherever blank ones lie ahead of it.
func TestNext(t *testing.T) {
	kinds := []api.Cell{head(1), value(0, 1), all(0)}
	for bits := range 1 << 7 {
		cells := blanks(7)
		next := 0
		for i := range cells {
			if bits>>i&1 == 1 {
				cells[i] = kinds[(bits+i)%3]
				next = i + 1
			}
		}
		want := wanted(cells)
		if want.Next != next || want.Blank != (bits == 0) {
			t.Fatalf("%+v", want)
		}
		says(t, "gaps", filled(t, roomy(), 3, cells), 3, want)
	}
}

// anyCell is a blank cell, a right one or a wrong one.
func anyCell(r *rand.Rand) api.Cell {
	switch r.Intn(6) {
	case 0:
		return all(0xff)
	case 1:
		return head(1 + r.Int63n(most)>>r.Intn(62))
	case 2:
		w := wrong()
		return w[r.Intn(len(w))]
	case 3:
		var c api.Cell
		r.Read(c[:])
		return c
	default:
		return value(r.Intn(9), 1+r.Int63n(most)>>r.Intn(62))
	}
}

// P8.1: pages of whatever cells, held against the chapter's words.
func TestAnyPage(t *testing.T) {
	r := rand.New(rand.NewSource(81))
	for range 3000 {
		g := roomy()
		g.Cells = 5 + r.Intn(12)
		cells := make([]api.Cell, g.Cells)
		for i := range cells {
			cells[i] = anyCell(r)
		}
		for i := r.Intn(g.Cells + 1); i < g.Cells; i++ {
			cells[i] = all(0xff)
		}
		p := r.Intn(6)
		c := filled(t, g, p, cells)
		says(t, "any page", c, p, wanted(cells))
		for other, held := range c.State().Pages {
			says(t, "beside it", c, other, wanted(held))
		}
	}
}

// P8.1: without power the answer is ErrPower, ahead of ErrRange too; when it is there again, all is told as it was.
func TestNoPower(t *testing.T) {
	for _, g := range configs()[:3] {
		c := filled(t, g, 0, []api.Cell{head(2), value(0, 3)})
		c.Cut(0, nil)
		if e := c.Blow(0); e != api.ErrPower {
			t.Fatal(e)
		}
		for _, p := range []int{math.MinInt, -1, 0, 1, 1 + 2*g.Area, 2 + 2*g.Area, 9, math.MaxInt} {
			refused(t, c, p, api.ErrPower)
		}
		c.Restore()
		for p, held := range c.State().Pages {
			says(t, "restored", c, p, wanted(held))
		}
		refused(t, c, 2+2*g.Area, api.ErrRange)
	}
}

// P8.1: a Look does no act, changes nothing of the chip, and brings a cut that waits no nearer.
func TestNoAct(t *testing.T) {
	r := rand.New(rand.NewSource(82))
	for _, g := range configs() {
		cells := make([]api.Cell, g.Cells)
		for i := range cells {
			cells[i] = anyCell(r)
		}
		c := filled(t, g, 1, cells)
		c.Program(0, 1, all(0xf0))
		acts, held := c.Acts(), c.State()
		c.Cut(1, []byte{0x0f})
		for range 3 {
			for p := -1; p < 3+2*g.Area; p++ {
				page.Look(c, p)
			}
		}
		if c.Acts() != acts || c.Out() || c.Config() != g || !reflect.DeepEqual(c.State(), held) {
			t.Fatalf("Look has changed a chip of %+v", g)
		}
		if e := c.Blow(0); e != api.OK {
			t.Fatalf("the cut came nearer: %v", e)
		}
		if e := c.Blow(0); e != api.ErrPower {
			t.Fatalf("the cut waits no more: %v", e)
		}
	}
}

// masks are of all bits, of none, of one byte each way, of one cell of a page alone, and of any bytes, few or many of their bits being 1.
func masks(r *rand.Rand, cells int) [][]byte {
	ms := [][]byte{nil, {}, {0}, {0xff}, {0x0f}, {0xf0}, {0x01}, {0xfe}, {0, 0xff}, {0xff, 0, 0}}
	for i := range cells {
		one, rest := make([]byte, 32*cells), bytes.Repeat([]byte{0xff}, 32*cells)
		copy(one[32*i:], bytes.Repeat([]byte{0xff}, 32))
		clear(rest[32*i : 32*i+32])
		ms = append(ms, one, rest)
	}
	for range 30 {
		m := make([]byte, 1+r.Intn(32*cells+9))
		dense := 1 + r.Intn(60)
		for i := range 8 * len(m) {
			if r.Intn(61) < dense {
				m[i/8] |= 1 << (i % 8)
			}
		}
		ms = append(ms, m)
	}
	return ms
}

// soundCell is a cell in which no bit and its complement are both 0: a blank one, a right one, a row beside its complement that is no record, or any torn one of that kind.
func soundCell(r *rand.Rand) api.Cell {
	switch r.Intn(8) {
	case 0, 1:
		return all(0xff)
	case 2:
		var b [12]byte
		r.Read(b[:])
		return summed(b[:])
	case 3:
		return value(9+r.Intn(9), 1+r.Int63n(most))
	case 4:
		c := value(r.Intn(9), 1+r.Int63n(99))
		for range 1 + r.Intn(9) {
			c[r.Intn(32)] |= 1 << r.Intn(8)
		}
		return c
	default:
		return value(r.Intn(9), 1+r.Int63n(99))
	}
}

// soundPage is one whose cell 0 is a head's more often than not.
func soundPage(r *rand.Rand, cells int) []api.Cell {
	p := make([]api.Cell, cells)
	for i := range p {
		p[i] = soundCell(r)
	}
	if r.Intn(3) > 0 {
		p[0] = head(1 + r.Int63n(99))
	}
	return p
}

// outcome counts how often the head was seen as it was, and as the whole act would have made it, where these are unlike (one of them is 0 then).
type outcome struct{ was, whole int }

// held makes sure that a page says, behind an act at which the power went, what P8.2 allows it to.
func (o *outcome) held(t *testing.T, was, whole page.Info, c *chip.Chip, at int) {
	t.Helper()
	now, e := page.Look(c, at)
	cells := c.State().Pages[at]
	if e != api.OK || now != wanted(cells) {
		t.Fatalf("Look(%d): %+v %v, want %+v", at, now, e, wanted(cells))
	}
	if now.Head != was.Head && now.Head != whole.Head && now.Head != 0 {
		t.Fatalf("the head %d, which was %d, and %d of the whole act", now.Head, was.Head, whole.Head)
	}
	for slot, n := range now.Numbers {
		if n > max(was.Numbers[slot], whole.Numbers[slot]) {
			t.Fatalf("the slot %d: %+v, which was %+v, and %+v of the whole act", slot, now, was, whole)
		}
	}
	if !sound(cells) {
		t.Fatal("the page is not sound any more")
	}
	switch {
	case was.Head == whole.Head:
	case now.Head == was.Head:
		o.was++
	default:
		o.whole++
	}
}

// cutAt does an act at which the power goes, and holds what it leaves against P8.2.
func (o *outcome) cutAt(t *testing.T, c *chip.Chip, at int, mask []byte, act func(*chip.Chip) api.Errno) {
	t.Helper()
	was := wanted(c.State().Pages[at])
	d := c.Copy()
	if e := act(d); e != api.OK {
		t.Fatalf("the whole act: %v", e)
	}
	whole := wanted(d.State().Pages[at])
	says(t, "the whole act", d, at, whole)
	c.Cut(0, mask)
	if e := act(c); e != api.ErrPower {
		t.Fatalf("the act with a cut: %v", e)
	}
	refused(t, c, at, api.ErrPower)
	c.Restore()
	o.held(t, was, whole, c, at)
}

func erase(at int) func(*chip.Chip) api.Errno {
	return func(c *chip.Chip) api.Errno { return c.Erase(at) }
}

func program(at, i int, x api.Cell) func(*chip.Chip) api.Errno {
	return func(c *chip.Chip) api.Errno { return c.Program(at, i, x) }
}

// P8.2: the power goes at an erase of a sound page, and at a second and a third one of what that has left.
func TestCutErase(t *testing.T) {
	r := rand.New(rand.NewSource(83))
	var o outcome
	for range 40 {
		g := roomy()
		g.Cells = 5 + r.Intn(4)
		cells := soundPage(r, g.Cells)
		if !sound(cells) {
			t.Fatal("the page is not sound")
		}
		for _, m := range masks(r, g.Cells) {
			p := r.Intn(6)
			c := filled(t, g, p, cells)
			o.cutAt(t, c, p, m, erase(p))
			o.cutAt(t, c, p, []byte{byte(r.Intn(256)), byte(r.Intn(256)), byte(r.Intn(256))}, erase(p))
			o.cutAt(t, c, p, m, erase(p))
			if e := c.Erase(p); e != api.OK {
				t.Fatal(e)
			}
			says(t, "erased", c, p, page.Info{Blank: true})
		}
	}
	if o.was == 0 || o.whole == 0 {
		t.Errorf("not all was seen: %+v", o)
	}
}

// P8.2: with a mask of ones a cut erase is the whole one, with none of them nothing changes, and with one bit of the head alone it is torn.
func TestCutEraseOfHead(t *testing.T) {
	cells := []api.Cell{head(5), value(0, 3), value(8, 4), value(0, 2)}
	for _, m := range [][]byte{nil, {0}} {
		c := filled(t, small(), 0, cells)
		new(outcome).cutAt(t, c, 0, m, erase(0))
		says(t, "no bit erased", c, 0, wanted(cells))
	}
	c := filled(t, small(), 0, cells)
	new(outcome).cutAt(t, c, 0, []byte{0xff}, erase(0))
	says(t, "all bits erased", c, 0, page.Info{Blank: true})
	for bit := range 256 {
		m := make([]byte, 128)
		m[bit/8] = 1 << (bit % 8)
		c := filled(t, small(), 0, cells)
		new(outcome).cutAt(t, c, 0, m, erase(0))
		want := wanted(cells)
		if cells[0][bit/8]>>(bit%8)&1 == 0 {
			want.Head, want.Torn = 0, 1
		}
		says(t, "one bit erased", c, 0, want)
	}
}

// records are a head, values of each kind of slot, and numbers at the edges.
func records(t *testing.T) []api.Cell {
	t.Helper()
	var rs []api.Cell
	for _, n := range []int64{1, 50, most} {
		h, e := cell.Head(n)
		if e != api.OK {
			t.Fatal(e)
		}
		rs = append(rs, h)
		for _, slot := range []int{0, 3, api.MaxSlots} {
			v, e := cell.Value(slot, n)
			if e != api.OK {
				t.Fatal(e)
			}
			rs = append(rs, v)
		}
	}
	return rs
}

// P8.2: the power goes at the program of a right record into a blank cell of a sound page, the cell 0 and the last one among them; then at another one, and at an erase.
func TestCutProgram(t *testing.T) {
	r := rand.New(rand.NewSource(84))
	var o outcome
	g := small()
	for _, x := range records(t) {
		for i := range g.Cells {
			for _, m := range masks(r, 1) {
				cells := soundPage(r, g.Cells)
				other := (i + 1 + r.Intn(g.Cells-1)) % g.Cells
				cells[i], cells[other] = all(0xff), all(0xff)
				p := r.Intn(2)
				c := filled(t, g, p, cells)
				o.cutAt(t, c, p, m, program(p, i, x))
				o.cutAt(t, c, p, []byte{byte(r.Intn(256)), byte(r.Intn(256))}, program(p, other, records(t)[r.Intn(12)]))
				o.cutAt(t, c, p, []byte{byte(r.Intn(256)), byte(r.Intn(256))}, erase(p))
			}
		}
	}
	if o.was == 0 || o.whole == 0 {
		t.Errorf("not all was seen: %+v", o)
	}
}

// P8.2: what a cut program leaves in the cell is blank, torn or the record, as the mask has it, and the page says so.
func TestCutProgramLeaves(t *testing.T) {
	r := rand.New(rand.NewSource(85))
	left := map[int]int{}
	for _, x := range records(t) {
		for i := range 4 {
			for _, m := range masks(r, 1) {
				cells := []api.Cell{head(9), value(0, 20), value(3, 20), value(8, 20)}
				cells[i] = all(0xff)
				c := filled(t, small(), 1, cells)
				new(outcome).cutAt(t, c, 1, m, program(1, i, x))
				now, _ := c.Read(1, i)
				kind := cell.Read(now).Kind
				left[kind]++
				if kind != api.CellBlank && kind != api.CellTorn && now != x {
					t.Fatalf("%x of %x", now, x)
				}
				cells[i] = now
				says(t, "what is left", c, 1, wanted(cells))
			}
		}
	}
	for _, kind := range []int{api.CellBlank, api.CellHead, api.CellValue, api.CellTorn} {
		if left[kind] == 0 {
			t.Errorf("the kind %d was never left", kind)
		}
	}
}

// P8.2: whatever comes of a blank page by programs of right records into blank cells, and by erases, cut or not, again and again, is sound, and each cut leaves what it may.
func TestSoundAllTheWay(t *testing.T) {
	r := rand.New(rand.NewSource(86))
	var o outcome
	for range 120 {
		g := small()
		g.Cells, g.Erases = 4+r.Intn(4), api.MaxErases
		c := made(t, g)
		for range 60 {
			p, i := r.Intn(2), r.Intn(g.Cells)
			act := erase(p)
			if x, _ := c.Read(p, i); r.Intn(5) > 0 {
				if x != all(0xff) {
					continue
				}
				act = program(p, i, records(t)[r.Intn(12)])
			}
			if r.Intn(2) == 0 {
				ms := masks(r, g.Cells)
				o.cutAt(t, c, p, ms[r.Intn(len(ms))], act)
			} else if e := act(c); e != api.OK {
				t.Fatal(e)
			}
			for p, held := range c.State().Pages {
				if !sound(held) {
					t.Fatal("a page is not sound any more")
				}
				says(t, "on the way", c, p, wanted(held))
			}
		}
	}
	if o.was == 0 || o.whole == 0 {
		t.Errorf("not all was seen: %+v", o)
	}
}

// P8.2: of a page that isn't sound a cut erase may make any record; Look tells what lies there then.
func TestNotSound(t *testing.T) {
	cells := []api.Cell{all(0), all(0), all(0xff), all(0xff)}
	if sound(cells) {
		t.Fatal("the page is sound")
	}
	c := filled(t, small(), 0, cells)
	h, v := head(77), value(4, 88)
	c.Cut(0, slices.Concat(h[:], v[:], make([]byte, 64)))
	if e := c.Erase(0); e != api.ErrPower {
		t.Fatal(e)
	}
	c.Restore()
	want := page.Info{Head: 77, Next: 2}
	want.Numbers[4] = 88
	says(t, "not sound", c, 0, want)
}

// R3, R4: an answer stays as it is, whatever is done to it and to the chip, and a copy of a chip goes its own way.
func TestAnswersApart(t *testing.T) {
	c := made(t, roomy())
	laid(t, c, 0, []api.Cell{head(1), value(2, 3)})
	first, _ := page.Look(c, 0)
	kept := first
	first.Numbers[2], first.Head = 9, 9
	says(t, "written over", c, 0, kept)
	d := c.Copy()
	laid(t, d, 0, []api.Cell{all(0xff), all(0xff), value(2, 4)})
	says(t, "the copy went on", c, 0, kept)
	kept.Numbers[2], kept.Next = 4, 3
	says(t, "the copy", d, 0, kept)
	says(t, "the copy, again", d, 0, kept)
}

// R4: an answer hangs on the chip alone, whoever else looks at it at that time.
func TestManyAtOneTime(t *testing.T) {
	r := rand.New(rand.NewSource(87))
	cells := make([]api.Cell, 7)
	for i := range cells {
		cells[i] = anyCell(r)
	}
	c := filled(t, roomy(), 2, cells)
	var wants []page.Info
	for _, held := range c.State().Pages {
		wants = append(wants, wanted(held))
	}
	var wg sync.WaitGroup
	for i := range 16 {
		wg.Go(func() {
			for k := range 300 {
				p := (i + k) % len(wants)
				if got, e := page.Look(c, p); got != wants[p] || e != api.OK {
					t.Errorf("Look(%d): %+v %v, want %+v", p, got, e, wants[p])
				}
			}
		})
	}
	wg.Wait()
}
