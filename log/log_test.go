package log_test

import (
	"bytes"
	"encoding/binary"
	"hash/crc32"
	"math"
	"math/rand"
	"slices"
	"sync"
	"testing"

	"portcullis/api"
	"portcullis/chip"
	"portcullis/log"
)

const most = int64(1) << 62

// small is the chapter's: the least of all but for one cell more.
func small() api.Config {
	return api.Config{Cells: 5, Slots: 1, Fuses: 1, Step: 1, Keys: 1, Erases: 1}
}

// roomy has areas, and fewer slots than records may tell of.
func roomy() api.Config {
	return api.Config{Cells: 8, Slots: 3, Fuses: 2, Step: 3, Keys: 2, Erases: 4, Area: 1}
}

// tight has as many slots, and as few cells for them, as there may be.
func tight() api.Config {
	return api.Config{Cells: api.MaxSlots + 3, Slots: api.MaxSlots, Fuses: 1, Step: 1, Keys: 1, Erases: 3}
}

func greatest() api.Config {
	return api.Config{Cells: api.MaxCells, Slots: api.MaxSlots, Fuses: api.MaxFuses, Step: api.MaxStep, Keys: api.MaxKeys, Erases: api.MaxErases, Area: 1}
}

func configs() []api.Config {
	least := small()
	least.Cells, least.Erases = 4, 0
	return []api.Config{small(), least, roomy(), tight(), greatest()}
}

func made(t *testing.T, g api.Config) (*chip.Chip, *log.Log) {
	t.Helper()
	c, e := chip.New(g)
	if e != api.OK {
		t.Fatalf("New(%+v): %v", g, e)
	}
	return c, mounted(t, c)
}

func mounted(t *testing.T, c *chip.Chip) *log.Log {
	t.Helper()
	l, e := log.Mount(c)
	if l == nil || e != api.OK {
		t.Fatalf("Mount: %v %v", l, e)
	}
	return l
}

// filled is a chip that holds these cells in its pages 0 and 1, of which so many were erased, and something else in its areas.
func filled(t *testing.T, g api.Config, zero, one []api.Cell, erases ...int) (*chip.Chip, *log.Log) {
	t.Helper()
	c, _ := made(t, g)
	s := c.State()
	for p := range s.Pages[2:] {
		s.Pages[2+p][0], s.Pages[2+p][1] = head(most), value(0, most)
	}
	copy(s.Pages[0], zero)
	copy(s.Pages[1], one)
	copy(s.Erases, erases)
	c, e := chip.Lay(g, s)
	if e != api.OK {
		t.Fatalf("Lay(%+v): %v", g, e)
	}
	return c, mounted(t, c)
}

func all(v byte) api.Cell { return api.Cell(bytes.Repeat([]byte{v}, 32)) }

// summed lays twelve bytes, their sum as the library reckons it, and the complement of all of them into a cell.
func summed(front []byte) api.Cell {
	var c api.Cell
	b := binary.LittleEndian.AppendUint32(slices.Clone(front), crc32.ChecksumIEEE(front))
	for i, x := range b {
		c[i], c[16+i] = x, 255-x
	}
	return c
}

func front(kind, slot byte, n uint64) []byte {
	return binary.LittleEndian.AppendUint64([]byte{kind, slot, 0, 0}, n)
}

func head(n int64) api.Cell { return summed(front(1, 0, uint64(n))) }

func value(slot int, n int64) api.Cell { return summed(front(2, byte(slot), uint64(n))) }

func turned(c api.Cell, bit int) api.Cell {
	c[bit/8] ^= 1 << (bit % 8)
	return c
}

func number(c api.Cell) int64 { return int64(binary.LittleEndian.Uint64(c[4:12])) }

func isHead(c api.Cell) bool {
	return 1 <= number(c) && number(c) <= most && c == head(number(c))
}

func isValue(c api.Cell) bool {
	return 1 <= number(c) && number(c) <= most && c[1] <= 8 && c == value(int(c[1]), number(c))
}

// full is a page with that head whose other cells are values of the slots in turn, so many of its last cells being blank.
func full(g api.Config, generation int64, blank int) []api.Cell {
	cells := []api.Cell{head(generation)}
	for i := 1; i < g.Cells-blank; i++ {
		cells = append(cells, value((i-1)%(g.Slots+1), int64(i)))
	}
	return cells
}

// both lays the cells of a page and of the other one in their order.
func both(p int, cells, other []api.Cell) [2][]api.Cell {
	if p == 0 {
		return [2][]api.Cell{cells, other}
	}
	return [2][]api.Cell{other, cells}
}

func same(a, b api.Chip) bool {
	return slices.EqualFunc(a.Pages, b.Pages, slices.Equal) && slices.Equal(a.Erases, b.Erases) && slices.Equal(a.Blown, b.Blown)
}

// words tells, by the words of the document alone, what a log over a chip with power is to answer. Each word is gone through by itself.
type words struct {
	config api.Config
	holds  api.Chip
}

func of(c *chip.Chip) words { return words{c.Config(), c.State()} }

// generation is that of a page's right head; 0, if it has none.
func (w words) generation(p int) int64 {
	if c := w.holds.Pages[p][0]; isHead(c) {
		return number(c)
	}
	return 0
}

func (w words) present() int {
	for p := range 2 {
		mine, other := w.generation(p), w.generation(1-p)
		if mine > 0 && (other == 0 || other < mine || other == mine && p == 0) {
			return p
		}
	}
	return -1
}

func (w words) number(slot int) int64 {
	var n int64
	if p := w.present(); p >= 0 {
		for _, c := range w.holds.Pages[p][1:] {
			if isValue(c) && int(c[1]) == slot {
				n = max(n, number(c))
			}
		}
	}
	return n
}

// free counts the blank cells at a present page's end.
func (w words) free() int {
	free := 0
	if p := w.present(); p >= 0 {
		for _, c := range slices.Backward(w.holds.Pages[p]) {
			if c != all(0xff) {
				break
			}
			free++
		}
	}
	return free
}

func (w words) target() int {
	if w.present() == 0 {
		return 1
	}
	return 0
}

// used says whether a page has a cell that is not blank.
func (w words) used(p int) bool {
	return slices.ContainsFunc(w.holds.Pages[p], func(c api.Cell) bool { return c != all(0xff) })
}

func (w words) worn() bool {
	if p := w.present(); p >= 0 && w.generation(p) == most {
		return true
	}
	return w.used(w.target()) && w.holds.Erases[w.target()] >= w.config.Erases
}

// act is an erase of a page, or a program of a cell.
type act struct {
	erase bool
	page  int
	cell  int
	x     api.Cell
}

func (a act) do(c *chip.Chip) api.Errno {
	if a.erase {
		return c.Erase(a.page)
	}
	return c.Program(a.page, a.cell, a.x)
}

// lay is what a Lay answers, if the power stays, and the acts that it does.
func (w words) lay(slot int, n int64) (api.Errno, []act) {
	if slot < 0 || slot > w.config.Slots || n < 1 || n > most {
		return api.ErrRange, nil
	}
	if n <= w.number(slot) {
		return api.ErrState, nil
	}
	if free := w.free(); free > 0 {
		return api.OK, []act{{page: w.present(), cell: w.config.Cells - free, x: value(slot, n)}}
	}
	if w.worn() {
		return api.ErrWorn, nil
	}
	return api.OK, w.turn(slot, n)
}

func (w words) turn(slot int, n int64) []act {
	var acts []act
	to := w.target()
	if w.used(to) {
		acts = append(acts, act{erase: true, page: to})
	}
	next := 1
	for s := range w.config.Slots + 1 {
		m := w.number(s)
		if s == slot {
			m = n
		}
		if m > 0 {
			acts = append(acts, act{page: to, cell: next, x: value(s, m)})
			next++
		}
	}
	generation := int64(1)
	if p := w.present(); p >= 0 {
		generation = w.generation(p) + 1
	}
	return append(acts, act{page: to, x: head(generation)})
}

// some are numbers that are no slots of any log, or no numbers of any.
func some() []int {
	return []int{math.MinInt, math.MinInt + 1, -1 << 32, -9, -2, -1, api.MaxSlots + 1, 16, 255, 256, 257, 1 << 32, 1<<32 + 1, 1 << 62, math.MaxInt - 1, math.MaxInt}
}

// told makes sure that all calls but Lay answer by the words, over a chip with power, and do no act.
func told(t *testing.T, what string, c *chip.Chip, l *log.Log) {
	t.Helper()
	w, acts := of(c), c.Acts()
	var generation int64
	if p := w.present(); p >= 0 {
		generation = w.generation(p)
	}
	if p, n := l.Present(), l.Generation(); p != w.present() || n != generation {
		t.Fatalf("%s: Present %d of the generation %d, want %d of %d", what, p, n, w.present(), generation)
	}
	if n, is := l.Free(), l.Worn(); n != w.free() || is != w.worn() {
		t.Fatalf("%s: Free %d, Worn %v, want %d, %v", what, n, is, w.free(), w.worn())
	}
	for slot := range w.config.Slots + 1 {
		if n, e := l.Number(slot); n != w.number(slot) || e != api.OK {
			t.Fatalf("%s: Number(%d): %d %v, want %d", what, slot, n, e, w.number(slot))
		}
	}
	for _, slot := range append(some(), w.config.Slots+1) {
		if n, e := l.Number(slot); n != 0 || e != api.ErrRange {
			t.Fatalf("%s: Number(%d): %d %v, want 0 and ErrRange", what, slot, n, e)
		}
	}
	if c.Out() || c.Acts() != acts || !same(c.State(), w.holds) {
		t.Fatalf("%s: a call that does no act has changed the chip", what)
	}
}

// laid does a Lay, and makes sure that it answers by the words, and does just their acts, one behind the other, till the power goes, if a cut waits for one of them.
func laid(t *testing.T, what string, c *chip.Chip, l *log.Log, slot int, n int64) api.Errno {
	t.Helper()
	d := c.Copy()
	want, acts := of(c).lay(slot, n)
	for _, a := range acts {
		if want == api.OK {
			want = a.do(d)
		}
	}
	got := l.Lay(slot, n)
	if got != want {
		t.Fatalf("%s: Lay(%d, %d): %v, want %v", what, slot, n, got, want)
	}
	if c.Acts() != d.Acts() || c.Out() != d.Out() || c.Config() != d.Config() || !same(c.State(), d.State()) {
		t.Fatalf("%s: Lay(%d, %d): not the acts that are said: %d of them, want %d", what, slot, n, c.Acts(), d.Acts())
	}
	if !c.Out() {
		told(t, what, c, l)
	}
	return got
}

func answers(t *testing.T, c *chip.Chip, l *log.Log, slot int, n int64, want api.Errno) {
	t.Helper()
	if e := laid(t, "a Lay", c, l, slot, n); e != want {
		t.Fatalf("Lay(%d, %d): %v, want %v", slot, n, e, want)
	}
}

func stands(t *testing.T, l *log.Log, present int, generation int64, free int, worn bool) {
	t.Helper()
	if p, g, f, w := l.Present(), l.Generation(), l.Free(), l.Worn(); p != present || g != generation || f != free || w != worn {
		t.Fatalf("%d %d %d %v, want %d %d %d %v", p, g, f, w, present, generation, free, worn)
	}
}

func numbers(t *testing.T, l *log.Log, want ...int64) {
	t.Helper()
	for slot, m := range want {
		if n, e := l.Number(slot); n != m || e != api.OK {
			t.Fatalf("Number(%d): %d %v, want %d", slot, n, e, m)
		}
	}
}

// holds makes sure what a page's first cells are, and that all others are blank.
func holds(t *testing.T, c *chip.Chip, p int, want ...api.Cell) {
	t.Helper()
	for i := range c.Config().Cells {
		x := all(0xff)
		if i < len(want) {
			x = want[i]
		}
		if got, e := c.Read(p, i); got != x || e != api.OK {
			t.Fatalf("the cell %d of the page %d: %x %v, want %x", i, p, got, e, x)
		}
	}
}

// The numbers by which the document names the errors and the limits.
func TestNumbers(t *testing.T) {
	if api.OK != 0 || api.ErrRange != 2 || api.ErrPower != 8 || api.ErrWorn != 9 || api.ErrState != 11 || api.MaxSlots != 8 {
		t.Error("an error or a limit has another number")
	}
}

// P9.1: the chapter's examples 1 to 3.
func TestExamples(t *testing.T) {
	c, l := made(t, small())
	stands(t, l, -1, 0, 0, false)
	numbers(t, l, 0, 0)
	answers(t, c, l, 0, 5, api.OK)
	holds(t, c, 0, head(1), value(0, 5))
	stands(t, l, 0, 1, 3, false)
	numbers(t, l, 5, 0)
	answers(t, c, l, 0, 5, api.ErrState)
	answers(t, c, l, 2, 1, api.ErrRange)
	answers(t, c, l, 0, 0, api.ErrRange)

	answers(t, c, l, 1, 1, api.OK)
	answers(t, c, l, 0, 6, api.OK)
	answers(t, c, l, 0, 7, api.OK)
	holds(t, c, 0, head(1), value(0, 5), value(1, 1), value(0, 6), value(0, 7))
	stands(t, l, 0, 1, 0, false)
	answers(t, c, l, 0, 9, api.OK)
	holds(t, c, 1, head(2), value(0, 9), value(1, 1))
	stands(t, l, 1, 2, 2, false)
	if n, _ := c.Erases(1); n != 0 {
		t.Fatalf("a blank page was erased %d times", n)
	}

	answers(t, c, l, 0, 10, api.OK)
	answers(t, c, l, 1, 4, api.OK)
	answers(t, c, l, 0, 20, api.OK)
	holds(t, c, 0, head(3), value(0, 20), value(1, 4))
	stands(t, l, 0, 3, 2, false)
	answers(t, c, l, 0, 21, api.OK)
	answers(t, c, l, 0, 22, api.OK)
	stands(t, l, 0, 3, 0, false)
	answers(t, c, l, 0, 23, api.OK)
	holds(t, c, 1, head(4), value(0, 23), value(1, 4))
	stands(t, l, 1, 4, 2, true)
	answers(t, c, l, 0, 24, api.OK)
	answers(t, c, l, 0, 25, api.OK)
	answers(t, c, l, 0, 26, api.ErrWorn)
	numbers(t, mounted(t, c), 25, 4)
}

// P9.1, P9.2: the chapter's example 4, with masks that leave of the head all but one bit, or one bit alone, whichever it is, and with the one that leaves it whole.
func TestExampleOfACut(t *testing.T) {
	masks := [][]byte{nil, {0x0f}, {0x55}, bytes.Repeat([]byte{0xff}, 32)}
	for bit := range 256 {
		one, rest := make([]byte, 32), bytes.Repeat([]byte{0xff}, 32)
		one[bit/8] ^= 1 << (bit % 8)
		rest[bit/8] ^= 1 << (bit % 8)
		masks = append(masks, one, rest)
	}
	wholes := 0
	for _, m := range masks {
		c, l := made(t, small())
		for _, n := range []int64{5, 6, 7} {
			answers(t, c, l, 0, n, api.OK)
		}
		answers(t, c, l, 1, 1, api.OK)
		c.Cut(2, m)
		answers(t, c, l, 0, 9, api.ErrPower)
		c.Restore()
		if x, _ := c.Read(1, 0); x == head(2) {
			wholes++
			stands(t, l, 1, 2, 2, false)
			numbers(t, l, 9, 1)
			continue
		}
		stands(t, l, 0, 1, 0, false)
		numbers(t, l, 7, 1)
		answers(t, c, l, 0, 9, api.OK)
		if n, _ := c.Erases(1); n != 1 {
			t.Fatalf("the page 1 was erased %d times", n)
		}
		holds(t, c, 1, head(2), value(0, 9), value(1, 1))
	}
	if wholes != 129 {
		t.Errorf("%d heads were whole", wholes)
	}
}

// P9.1: the slots of a log are 0 to Slots, one more than there are counters; each number is its own slot's.
func TestSlots(t *testing.T) {
	for slots := 1; slots <= api.MaxSlots; slots++ {
		g := roomy()
		g.Slots, g.Cells = slots, slots+3
		c, l := made(t, g)
		told(t, "blank", c, l)
		for slot := range slots + 1 {
			answers(t, c, l, slot, int64(100+slot), api.OK)
		}
		for slot := range slots + 1 {
			if n, e := l.Number(slot); n != int64(100+slot) || e != api.OK {
				t.Fatalf("Number(%d): %d %v", slot, n, e)
			}
		}
		for _, slot := range append(some(), slots+1) {
			for _, n := range []int64{1, 100, 200, most} {
				answers(t, c, l, slot, n, api.ErrRange)
			}
		}
	}
}

// P9.1: numbers are 1 to 2^62, and each is above the one that the slot had.
func TestNumbersThatMayBe(t *testing.T) {
	wrong := []int64{math.MinInt64, math.MinInt64 + 1, -most - 1, -most, -1 << 32, -1, 0, most + 1, most + 2, most + most/2, math.MaxInt64}
	for _, g := range configs() {
		for _, was := range []int64{0, 1, 2, 255, 1 << 31, 1 << 32, most - 1, most} {
			for _, slot := range []int{0, g.Slots} {
				c, l := made(t, g)
				if was > 0 {
					answers(t, c, l, slot, was, api.OK)
				}
				for _, n := range wrong {
					answers(t, c, l, slot, n, api.ErrRange)
				}
				for _, n := range []int64{1, was - 1, was} {
					if 1 <= n && n <= was {
						answers(t, c, l, slot, n, api.ErrState)
					}
				}
				for _, n := range []int64{was + 1, most} {
					if n <= most && n > of(c).number(slot) {
						answers(t, c, l, slot, n, api.OK)
						answers(t, c, l, slot, n, api.ErrState)
					}
				}
			}
		}
	}
}

// P9.1: which page is present: by right heads in the cells 0 alone; the greater generation's, and of two with one generation the page 0.
func TestPresent(t *testing.T) {
	generations := []int64{0, 1, 2, 255, 256, 1 << 32, most - 1, most}
	for _, zero := range generations {
		for _, one := range generations {
			pages := [2][]api.Cell{{all(0xff), value(0, 10), value(1, 20)}, {all(0xff), value(0, 30)}}
			for p, n := range []int64{zero, one} {
				if n > 0 {
					pages[p][0] = head(n)
				}
			}
			c, l := filled(t, small(), pages[0], pages[1], 1, 0)
			switch {
			case zero == 0 && one == 0:
				stands(t, l, -1, 0, 0, true)
				numbers(t, l, 0, 0)
			case zero >= one:
				stands(t, l, 0, zero, 2, zero == most)
				numbers(t, l, 10, 20)
			default:
				stands(t, l, 1, one, 3, true)
				numbers(t, l, 30, 0)
			}
			told(t, "two pages", c, l)
			laid(t, "two pages", c, l, 1, 21)
		}
	}
}

// P9.1: what is no right head in the cell 0 makes no page present: torn heads, values, heads beyond what may be, and heads elsewhere.
func TestNoHead(t *testing.T) {
	wrong := []api.Cell{
		all(0xff), all(0), value(0, 9), turned(head(9), 0), turned(head(9), 255), turned(head(most), 99),
		head(0), head(most + 1), head(-1), summed(front(1, 1, 9)), summed(front(3, 0, 9)), summed(front(0, 0, 9)),
	}
	for _, x := range wrong {
		for p := range 2 {
			pages := both(p, []api.Cell{x, head(5), value(0, 3)}, nil)
			c, l := filled(t, small(), pages[0], pages[1])
			stands(t, l, -1, 0, 0, false)
			numbers(t, l, 0, 0)
			answers(t, c, l, 0, 2, api.OK)
			stands(t, l, 0, 1, 3, false)

			pages[1-p] = []api.Cell{head(1), value(0, 2)}
			c, l = filled(t, small(), pages[0], pages[1])
			stands(t, l, 1-p, 1, 3, false)
			numbers(t, l, 2, 0)
			answers(t, c, l, 0, 3, api.OK)
		}
	}
}

// P9.1: records go behind the last cell that is not blank, be it torn, a head, or a record of a slot beyond the log's; cells that are blank ahead of it are left; without one behind it the page is turned.
func TestWhereARecordGoes(t *testing.T) {
	kinds := []api.Cell{head(9), value(0, 2), value(8, 9), all(0), turned(value(0, 7), 200)}
	for bits := range 1 << 7 {
		for _, x := range kinds {
			cells := slices.Concat([]api.Cell{head(3)}, slices.Repeat([]api.Cell{all(0xff)}, 7))
			next := 1
			for i := range 7 {
				if bits>>i&1 == 1 {
					cells[1+i] = x
					next = i + 2
				}
			}
			for p := range 2 {
				pages := both(p, cells, nil)
				c, l := filled(t, roomy(), pages[0], pages[1])
				stands(t, l, p, 3, 8-next, false)
				answers(t, c, l, 0, 5, api.OK)
				if next < 8 {
					cells := slices.Clone(cells)
					cells[next] = value(0, 5)
					holds(t, c, p, cells...)
					holds(t, c, 1-p)
				} else {
					stands(t, l, 1-p, 4, 6, false)
				}
			}
		}
	}
}

// P9.1: a present page that is full, and one with a single blank cell, of each number of cells; and the target is blank, or isn't for any one bit of it.
func TestTurn(t *testing.T) {
	for _, g := range configs() {
		for p := range 2 {
			pages := both(p, full(g, 7, 1), nil)
			c, l := filled(t, g, pages[0], pages[1])
			stands(t, l, p, 7, 1, false)
			answers(t, c, l, 0, 1000, api.OK)
			stands(t, l, p, 7, 0, false)
			answers(t, c, l, 0, 1001, api.OK)
			stands(t, l, 1-p, 8, g.Cells-g.Slots-2, g.Erases == 0)
			if n, _ := c.Erases(1 - p); n != 0 {
				t.Fatal("a blank page was erased")
			}
		}
	}
	for bit := range 5 * 256 {
		old := slices.Repeat([]api.Cell{all(0xff)}, 5)
		old[bit/256] = turned(old[bit/256], bit%256)
		c, l := filled(t, small(), full(small(), 7, 0), old)
		answers(t, c, l, 0, 9, api.OK)
		if n, _ := c.Erases(1); n != 1 {
			t.Fatal("a page that is not blank was not erased")
		}
		holds(t, c, 1, head(8), value(0, 9), value(1, 4))
	}
}

// P9.1: a turn takes along, rising, the slots whose number is above 0, that of the slot that is laid being the new one; slots beyond the log's stay behind, and what the target held ahead of it is gone.
func TestWhatATurnTakesAlong(t *testing.T) {
	g := roomy()
	for has := range 1 << 4 {
		for slot := range 4 {
			for p := range 2 {
				cells := []api.Cell{head(20)}
				want := []api.Cell{head(21)}
				for s := range 4 {
					if has>>s&1 == 1 {
						cells = append(cells, value(s, int64(10*s+5)), value(s, int64(10*s+2)))
					}
					if s == slot {
						want = append(want, value(s, 99))
					} else if has>>s&1 == 1 {
						want = append(want, value(s, int64(10*s+5)))
					}
				}
				cells = append(cells, slices.Repeat([]api.Cell{value(4, 50)}, 8)...)[:8]
				if has != 15 {
					cells[7] = value(8, 60)
				}
				pages := both(p, cells, full(g, 19, 2))
				c, l := filled(t, g, pages[0], pages[1])
				stands(t, l, p, 20, 0, false)
				answers(t, c, l, slot, 99, api.OK)
				holds(t, c, 1-p, want...)
				holds(t, c, p, cells...)
			}
		}
	}
}

// P9.1: a log whose pages have no right head begins anew in the page 0, which is erased if it isn't blank; what the page 1 holds is left.
func TestBeginning(t *testing.T) {
	for _, g := range configs() {
		for _, old := range [][]api.Cell{nil, {all(0)}, {all(0xff), value(0, 7)}, {value(1, 7), head(4), all(0xff), turned(head(3), 9)}} {
			for _, erases := range []int{0, 1, g.Erases} {
				if old != nil && erases >= g.Erases {
					continue
				}
				c, l := filled(t, g, old, []api.Cell{all(0xff), value(0, 90)}, erases, g.Erases)
				stands(t, l, -1, 0, 0, false)
				answers(t, c, l, 1, 3, api.OK)
				holds(t, c, 0, head(1), value(1, 3))
				holds(t, c, 1, all(0xff), value(0, 90))
				numbers(t, l, 0, 3)
			}
		}
	}
}

// P9.1: a turn is refused just if the target isn't blank and was erased as often as Erases says, or oftener; it doesn't hang on the other page. Lays without a turn go on.
func TestWorn(t *testing.T) {
	for _, g := range configs() {
		for p := range 2 {
			for _, erased := range []int{0, g.Erases - 1, g.Erases, g.Erases + 1, math.MaxInt} {
				if erased < 0 {
					continue
				}
				for _, other := range []int{0, g.Erases, math.MaxInt} {
					for _, old := range [][]api.Cell{nil, full(g, 6, 0), {all(0xff), value(0, 1)}} {
						pages := both(p, full(g, 7, 1), old)
						erases := make([]int, 2)
						erases[p], erases[1-p] = other, erased
						worn := old != nil && erased >= g.Erases
						c, l := filled(t, g, pages[0], pages[1], erases...)
						stands(t, l, p, 7, 1, worn)
						answers(t, c, l, 0, 1000, api.OK)
						stands(t, l, p, 7, 0, worn)
						if worn {
							answers(t, c, l, 0, 1001, api.ErrWorn)
							numbers(t, l, 1000)
							continue
						}
						answers(t, c, l, 0, 1001, api.OK)
						stands(t, l, 1-p, 8, of(c).free(), other >= g.Erases)
					}
				}
			}
		}
	}
}

// P9.1: without a present page the target is the page 0, and its wear alone counts.
func TestWornAtFirst(t *testing.T) {
	for _, g := range configs() {
		for _, erased := range []int{0, 1, g.Erases, g.Erases + 1, math.MaxInt} {
			for _, other := range []int{0, g.Erases, math.MaxInt} {
				for _, old := range [][]api.Cell{nil, {value(0, 9)}, {all(0xff), all(0)}} {
					worn := old != nil && erased >= g.Erases
					c, l := filled(t, g, old, []api.Cell{all(0)}, erased, other)
					stands(t, l, -1, 0, 0, worn)
					want := api.OK
					if worn {
						want = api.ErrWorn
					}
					answers(t, c, l, 0, 1, want)
				}
			}
		}
	}
}

// P9.1: behind the generation 2^62 there is none: no turn, though the target is blank and was never erased; Lays without a turn go on. One less may be turned yet.
func TestLastGeneration(t *testing.T) {
	for _, g := range configs() {
		for p := range 2 {
			for _, old := range [][]api.Cell{nil, full(g, most-1, 0), full(g, 1, 2)} {
				pages := both(p, full(g, most, 1), old)
				c, l := filled(t, g, pages[0], pages[1])
				stands(t, l, p, most, 1, true)
				answers(t, c, l, 1, 1000, api.OK)
				answers(t, c, l, 1, 1001, api.ErrWorn)
				answers(t, c, l, 0, most, api.ErrWorn)
				numbers(t, l, of(c).number(0), 1000)
			}
			pages := both(p, full(g, most-1, 0), nil)
			c, l := filled(t, g, pages[0], pages[1])
			stands(t, l, p, most-1, 0, false)
			answers(t, c, l, 1, 1000, api.OK)
			stands(t, l, 1-p, most, of(c).free(), true)
		}
	}
}

// P9.1: of two pages of one generation the page 1 is the target, whatever it holds.
func TestOneGeneration(t *testing.T) {
	g := small()
	c, l := filled(t, g, full(g, 4, 0), []api.Cell{head(4), value(0, 700)})
	stands(t, l, 0, 4, 0, false)
	numbers(t, l, 3, 4)
	answers(t, c, l, 0, 5, api.OK)
	stands(t, l, 1, 5, 2, false)
	holds(t, c, 1, head(5), value(0, 5), value(1, 4))

	c, l = filled(t, g, full(g, most, 0), []api.Cell{head(most), value(0, 700)})
	stands(t, l, 0, most, 0, true)
	answers(t, c, l, 0, 5, api.ErrWorn)
}

// P9.1: the errors of a Lay come in the order in which the chapter names them: ErrPower, ErrRange, ErrState, ErrWorn; and those of Number. None of them does an act.
func TestOrderOfErrors(t *testing.T) {
	g := small()
	c, l := filled(t, g, full(g, 2, 0), full(g, 1, 0), 0, 1)
	stands(t, l, 0, 2, 0, true)
	for _, slot := range append(some(), 2) {
		for _, n := range []int64{math.MinInt64, -1, 0, 1, 3, 4, most, most + 1, math.MaxInt64} {
			answers(t, c, l, slot, n, api.ErrRange)
		}
	}
	for _, n := range []int64{math.MinInt64, -1, 0, most + 1, math.MaxInt64} {
		answers(t, c, l, 0, n, api.ErrRange)
	}
	for _, n := range []int64{1, 2, 3} {
		answers(t, c, l, 0, n, api.ErrState)
	}
	for _, n := range []int64{4, 5, most} {
		answers(t, c, l, 0, n, api.ErrWorn)
	}
	if c.Acts() != 0 {
		t.Fatalf("%d acts", c.Acts())
	}
	c.Cut(0, nil)
	c.Blow(0)
	dark(t, c, l)
}

// dark makes sure what all calls tell without power, and that nothing is done.
func dark(t *testing.T, c *chip.Chip, l *log.Log) {
	t.Helper()
	acts, held := c.Acts(), c.State()
	if m, e := log.Mount(c); m != nil || e != api.ErrPower {
		t.Fatalf("Mount: %v %v", m, e)
	}
	stands(t, l, -1, 0, 0, false)
	for _, slot := range append(some(), 0, 1, 2, 8) {
		if n, e := l.Number(slot); n != 0 || e != api.ErrPower {
			t.Fatalf("Number(%d): %d %v", slot, n, e)
		}
		for _, n := range []int64{math.MinInt64, -1, 0, 1, 3, 1000, most, most + 1, math.MaxInt64} {
			if e := l.Lay(slot, n); e != api.ErrPower {
				t.Fatalf("Lay(%d, %d): %v", slot, n, e)
			}
		}
	}
	if !c.Out() || c.Acts() != acts || !same(c.State(), held) {
		t.Fatal("a call without power has changed the chip")
	}
}

// P9.1: without power, whatever the chip holds; when it is there again, all is told as it was.
func TestNoPower(t *testing.T) {
	r := rand.New(rand.NewSource(91))
	for _, g := range configs() {
		for range 9 {
			c, l := anyChip(t, r, g)
			c.Cut(0, nil)
			if e := c.Blow(0); e != api.ErrPower {
				t.Fatal(e)
			}
			dark(t, c, l)
			c.Restore()
			told(t, "restored", c, l)
			told(t, "mounted", c, mounted(t, c))
			laid(t, "restored", c, l, 0, of(c).number(0)+1)
		}
	}
}

// P9.1: no call but Lay does an act, nor does one that is refused: a cut that waits comes no nearer.
func TestNoAct(t *testing.T) {
	r := rand.New(rand.NewSource(92))
	for _, g := range configs() {
		for range 9 {
			c, _ := anyChip(t, r, g)
			acts, held := c.Acts(), c.State()
			c.Cut(0, []byte{0xff})
			l := mounted(t, c)
			told(t, "a cut waits", c, l)
			for _, slot := range append(some(), g.Slots+1) {
				answers(t, c, l, slot, 9, api.ErrRange)
			}
			answers(t, c, l, 0, 0, api.ErrRange)
			answers(t, c, l, 0, most+1, api.ErrRange)
			if n := of(c).number(1); n > 0 {
				answers(t, c, l, 1, n, api.ErrState)
			}
			if c.Acts() != acts || c.Out() || !same(c.State(), held) {
				t.Fatal("the chip was changed")
			}
			if e := c.Blow(0); e != api.ErrPower {
				t.Fatalf("the cut waits no more: %v", e)
			}
		}
	}
}

// anyCell is a blank cell, a right one, a torn one or whatever else.
func anyCell(r *rand.Rand) api.Cell {
	switch r.Intn(8) {
	case 0:
		return all(0xff)
	case 1:
		return head(1 + r.Int63n(most)>>r.Intn(62))
	case 2:
		return turned(value(r.Intn(9), 1+r.Int63n(99)), r.Intn(256))
	case 3:
		var c api.Cell
		r.Read(c[:])
		return c
	case 4:
		return value(9+r.Intn(9), 1+r.Int63n(99))
	default:
		return value(r.Intn(9), 1+r.Int63n(most)>>r.Intn(62))
	}
}

// anyPage has a right head more often than not, often one of a generation that another page has too, and is full or blank at times.
func anyPage(r *rand.Rand, g api.Config, some func(*rand.Rand) api.Cell) []api.Cell {
	cells := slices.Repeat([]api.Cell{all(0xff)}, g.Cells)
	if r.Intn(6) == 0 {
		return cells
	}
	n := g.Cells
	if r.Intn(2) == 0 {
		n = 1 + r.Intn(g.Cells)
	}
	for i := range n {
		cells[i] = some(r)
	}
	if r.Intn(4) > 0 {
		cells[0] = head([]int64{1, 2, 3, 4, most - 1, most}[r.Intn(6)])
	}
	return cells
}

func anyChip(t *testing.T, r *rand.Rand, g api.Config) (*chip.Chip, *log.Log) {
	t.Helper()
	return filled(t, g, anyPage(r, g, anyCell), anyPage(r, g, anyCell), r.Intn(g.Erases+2), r.Intn(g.Erases+2))
}

// above is a number above that of a slot, if there is one.
func above(r *rand.Rand, n int64) int64 {
	if r.Intn(9) == 0 {
		return most
	}
	return min(most, n+1+r.Int63n(3))
}

// P9.1: over chips that hold whatever: all calls, and several Lays one behind the other, are as the words have it.
func TestAnyChip(t *testing.T) {
	r := rand.New(rand.NewSource(93))
	seen := map[api.Errno]int{}
	for range 1500 {
		g := roomy()
		g.Slots = 1 + r.Intn(api.MaxSlots)
		g.Cells, g.Erases = g.Slots+3+r.Intn(4), r.Intn(4)
		c, l := anyChip(t, r, g)
		told(t, "any chip", c, l)
		for range 1 + r.Intn(2*g.Cells) {
			slot := r.Intn(g.Slots + 1)
			n := above(r, of(c).number(slot))
			if r.Intn(9) == 0 {
				slot, n = r.Intn(12)-1, r.Int63n(6)-1
			}
			seen[laid(t, "any chip", c, l, slot, n)]++
		}
	}
	for _, e := range []api.Errno{api.OK, api.ErrRange, api.ErrState, api.ErrWorn} {
		if seen[e] == 0 {
			t.Errorf("%v was never answered", e)
		}
	}
}

// masks are of all bits, of none, of one byte each way, of one cell of a page alone, and of any bytes, few or many of their bits being 1.
func masks(r *rand.Rand, cells int) [][]byte {
	ms := [][]byte{nil, {0}, {0xff}, {0x0f}, {0xf0}, {0x01}, {0xfe}, {0, 0xff}, {0xff, 0, 0}}
	for i := range cells {
		one, rest := make([]byte, 32*cells), bytes.Repeat([]byte{0xff}, 32*cells)
		copy(one[32*i:], bytes.Repeat([]byte{0xff}, 32))
		clear(rest[32*i : 32*i+32])
		ms = append(ms, one, rest)
	}
	for range 12 {
		m := make([]byte, 1+r.Intn(32*cells+9))
		dense := 1 + r.Intn(60)
		for i := range 8 * len(m) {
			if r.Intn(61) < dense {
				m[i/8] |= 1 << (i % 8)
			}
		}
		ms = append(ms, m)
	}
	return ms
}

// P9.1: over chips that hold whatever the power goes at each act of a Lay, with all kinds of masks, and at acts of the Lays behind it: as soon as it goes the Lay answers ErrPower, and no more is done.
func TestCutAnyChip(t *testing.T) {
	r := rand.New(rand.NewSource(94))
	for range 100 {
		g := roomy()
		g.Slots = 1 + r.Intn(4)
		g.Cells = g.Slots + 3 + r.Intn(3)
		first, l := anyChip(t, r, g)
		slot := r.Intn(g.Slots + 1)
		n := above(r, of(first).number(slot))
		_, acts := of(first).lay(slot, n)
		for at := range len(acts) + 1 {
			for _, m := range masks(r, g.Cells) {
				c := first.Copy()
				l = mounted(t, c)
				c.Cut(at, m)
				e := laid(t, "cut", c, l, slot, n)
				if (e == api.ErrPower) != (at < len(acts)) {
					t.Fatalf("a cut at %d of %d acts: %v", at, len(acts), e)
				}
				if c.Out() {
					stands(t, l, -1, 0, 0, false)
				}
				c.Restore()
				told(t, "cut", c, l)
				c.Cut(r.Intn(5), m)
				laid(t, "again", c, l, slot, above(r, of(c).number(slot)))
				c.Restore()
				told(t, "again", c, mounted(t, c))
			}
		}
	}
}

// sound says, bit by bit, whether in none of a page's cells a bit and its complement are both 0.
func sound(cells []api.Cell) bool {
	for _, c := range cells {
		for bit := range 128 {
			low, high := c[bit/8]>>(bit%8)&1, c[16+bit/8]>>(bit%8)&1
			if low == 0 && high == 0 {
				return false
			}
		}
	}
	return true
}

func soundLog(t *testing.T, c *chip.Chip) {
	t.Helper()
	for _, p := range c.State().Pages[:2] {
		if !sound(p) {
			t.Fatal("a page is not sound")
		}
	}
}

// soundCell is a cell in which no bit and its complement are both 0: a blank one, a right one, a row beside its complement that is no record, or any torn one of that kind.
func soundCell(r *rand.Rand) api.Cell {
	switch r.Intn(8) {
	case 0:
		return all(0xff)
	case 1:
		var b [12]byte
		r.Read(b[:])
		return summed(b[:])
	case 2:
		return value(9+r.Intn(9), 1+r.Int63n(most))
	case 3:
		c := value(r.Intn(9), 1+r.Int63n(99))
		for range 1 + r.Intn(9) {
			c[r.Intn(32)] |= 1 << r.Intn(8)
		}
		return c
	case 4:
		return head(1 + r.Int63n(5))
	default:
		return value(r.Intn(5), 1+r.Int63n(99))
	}
}

func soundChip(t *testing.T, r *rand.Rand, g api.Config) (*chip.Chip, *log.Log) {
	t.Helper()
	c, l := filled(t, g, anyPage(r, g, soundCell), anyPage(r, g, soundCell), r.Intn(2), r.Intn(2))
	soundLog(t, c)
	return c, l
}

// row is all numbers of a log.
func row(t *testing.T, c *chip.Chip, l *log.Log) []int64 {
	t.Helper()
	var ns []int64
	for slot := range c.Config().Slots + 1 {
		n, e := l.Number(slot)
		if e != api.OK {
			t.Fatalf("Number(%d): %v", slot, e)
		}
		ns = append(ns, n)
	}
	return ns
}

// outcome counts how often a Lay at which the power went left its slot's number as it was, and how often the new one.
type outcome struct{ was, whole int }

// step does one Lay over a sound log, at one of whose acts the power may go, and makes sure that it is whole or none, and stays so.
func (o *outcome) step(t *testing.T, c *chip.Chip, l *log.Log, slot int, n int64) api.Errno {
	t.Helper()
	was := row(t, c, l)
	e := laid(t, "over a sound chip", c, l, slot, n)
	c.Restore()
	now := row(t, c, l)
	if !slices.Equal(now, row(t, c, mounted(t, c))) {
		t.Fatalf("%v, and mounted anew %v", now, row(t, c, mounted(t, c)))
	}
	want := slices.Clone(was)
	switch {
	case e == api.OK:
		want[slot] = n
	case e == api.ErrPower && now[slot] == n:
		want[slot] = n
		o.whole++
	case e == api.ErrPower:
		o.was++
	}
	if !slices.Equal(now, want) {
		t.Fatalf("Lay(%d, %d): %v: %v, which was %v", slot, n, e, now, was)
	}
	soundLog(t, c)
	return e
}

// P9.2, P9.3: over sound chips the power goes at each act of a Lay, with all kinds of masks: whole or none.
func TestWholeOrNone(t *testing.T) {
	r := rand.New(rand.NewSource(95))
	var o outcome
	for range 120 {
		g := roomy()
		g.Slots = 1 + r.Intn(4)
		g.Cells = g.Slots + 3 + r.Intn(3)
		first, _ := soundChip(t, r, g)
		slot := r.Intn(g.Slots + 1)
		n := above(r, of(first).number(slot))
		_, acts := of(first).lay(slot, n)
		for at := range acts {
			for _, m := range masks(r, g.Cells) {
				c := first.Copy()
				c.Cut(at, m)
				if e := o.step(t, c, mounted(t, c), slot, n); e != api.ErrPower {
					t.Fatalf("a cut at %d of %d acts: %v", at, len(acts), e)
				}
			}
		}
	}
	if o.was == 0 || o.whole == 0 {
		t.Errorf("not all was seen: %+v", o)
	}
}

// P9.2: the turn of a log that began blank, cut at each act of it, and again at each act of what is done behind it, and once more: no other number than n comes, and without a cut at last it is n.
func TestCutAgainAndAgain(t *testing.T) {
	g := small()
	g.Erases = 9
	var o outcome
	begun, l := made(t, g)
	for _, n := range []int64{5, 6, 7, 8, 9, 10, 11} {
		answers(t, begun, l, int(n%2), n, api.OK)
	}
	stands(t, l, 1, 2, 0, false)
	ms := [][]byte{nil, {0xff}, {0x0f}, {0x6b, 0x35, 0x9e}, append(make([]byte, 32), bytes.Repeat([]byte{0xff}, 128)...)}
	for at := range 4 * 4 * 4 {
		for i := range len(ms) * len(ms) * len(ms) {
			c := begun.Copy()
			l := mounted(t, c)
			a, k := at, i
			for range 3 {
				c.Cut(a%4, ms[k%len(ms)])
				a, k = a/4, k/len(ms)
				if e := o.step(t, c, l, 0, 20); e == api.OK || e == api.ErrState {
					break
				}
			}
			c.Cut(-1, nil)
			if e := o.step(t, c, l, 0, 20); e != api.OK && e != api.ErrState {
				t.Fatal(e)
			}
			numbers(t, l, 20, 11)
			answers(t, c, l, 1, 12, api.OK)
			numbers(t, l, 20, 12)
		}
	}
	if o.was == 0 || o.whole == 0 {
		t.Errorf("not all was seen: %+v", o)
	}
}

// P9.2, P9.3: rows of Lays of all slots over sound chips, cut more often than not: no number ever falls, what was laid stays, and the pages stay sound.
func TestNeverBack(t *testing.T) {
	r := rand.New(rand.NewSource(96))
	var o outcome
	worn := 0
	for range 80 {
		g := roomy()
		g.Slots = 1 + r.Intn(api.MaxSlots)
		g.Cells, g.Erases = g.Slots+3+r.Intn(4), 1+r.Intn(40)
		c, l := made(t, g)
		if r.Intn(2) == 0 {
			c, l = soundChip(t, r, g)
		}
		for range 50 {
			was := row(t, c, l)
			slot := r.Intn(g.Slots + 1)
			ms := masks(r, g.Cells)
			c.Cut(r.Intn(8)-1, ms[r.Intn(len(ms))])
			if e := o.step(t, c, l, slot, above(r, was[slot])); e == api.ErrWorn {
				worn++
			}
			for s, n := range row(t, c, l) {
				if n < was[s] {
					t.Fatalf("the slot %d fell from %d to %d", s, was[s], n)
				}
			}
			if r.Intn(3) == 0 {
				l = mounted(t, c)
			}
		}
	}
	if o.was == 0 || o.whole == 0 || worn == 0 {
		t.Errorf("not all was seen: %+v, %d", o, worn)
	}
}

// erases tells how often each page of the log was erased.
func erases(c *chip.Chip) (int, int) {
	s := c.State()
	return s.Erases[0], s.Erases[1]
}

func apart(c *chip.Chip) int {
	zero, one := erases(c)
	return max(zero-one, one-zero)
}

// P9.4: over a chip that was blank, without cuts: the erases of both pages differ by one at most, a Lay that turns the page does at most Slots + 3 acts, and with all slots laid just so many, each other one does one; till no page may be erased any more.
func TestWear(t *testing.T) {
	r := rand.New(rand.NewSource(97))
	for slots := 1; slots <= api.MaxSlots; slots++ {
		for _, most := range []int{0, 1, 2, 9} {
			g := api.Config{Cells: slots + 3 + r.Intn(4), Slots: slots, Fuses: 1, Step: 1, Keys: 1, Erases: most}
			c, l := made(t, g)
			greatest := 0
			for n := int64(1); ; n++ {
				free, acts := l.Free(), c.Acts()
				zero, one := erases(c)
				e := laid(t, "wear", c, l, int(n)%(slots+1), n)
				if e == api.ErrWorn {
					break
				}
				now0, now1 := erases(c)
				did, erased := c.Acts()-acts, now0+now1-zero-one
				if apart(c) > 1 || erased > 1 || did > slots+3 || free > 0 && (did != 1 || erased != 0) {
					t.Fatalf("%d acts, %d erases, the pages are %d apart", did, erased, apart(c))
				}
				greatest = max(greatest, did)
			}
			if zero, one := erases(c); zero != most || one != most {
				t.Fatalf("%d and %d erases of %d", zero, one, most)
			}
			if want := slots + 3; most > 0 && greatest != want {
				t.Fatalf("%d acts at most, want %d", greatest, want)
			}
			if !l.Worn() || l.Free() != 0 {
				t.Fatal("worn out, and not told so")
			}
		}
	}
}

// P9.4: each cut adds one erase at most: the pages are no further apart than one, and one more a cut, and no Lay erases twice.
func TestWearWithCuts(t *testing.T) {
	r := rand.New(rand.NewSource(98))
	furthest := 0
	for range 60 {
		g := small()
		g.Slots = 1 + r.Intn(3)
		g.Cells, g.Erases = g.Slots+3+r.Intn(2), 200
		c, l := made(t, g)
		cuts := 0
		for n := int64(1); n < 80; n++ {
			ms := masks(r, g.Cells)
			if r.Intn(3) == 0 {
				c.Cut(r.Intn(6), ms[r.Intn(len(ms))])
			}
			zero, one := erases(c)
			e := laid(t, "wear", c, l, r.Intn(g.Slots+1), n)
			if e == api.ErrPower {
				cuts++
			} else if e != api.OK {
				t.Fatal(e)
			}
			c.Restore()
			c.Cut(-1, nil)
			if now0, now1 := erases(c); now0+now1 > zero+one+1 {
				t.Fatal("a Lay has erased twice")
			}
			if apart(c) > 1+cuts {
				t.Fatalf("%d apart behind %d cuts", apart(c), cuts)
			}
			furthest = max(furthest, apart(c))
		}
	}
	if furthest < 2 {
		t.Error("no cut has added an erase")
	}
}

// P9.4: cuts at each turn, at whichever act, again and again: of each turn its erase is done once more a cut, at most.
func TestWearOfOneTurn(t *testing.T) {
	g := small()
	g.Erases = 99
	for at := range 4 {
		for _, m := range [][]byte{nil, {0x0f}, {0xf1, 0x07}} {
			c, l := filled(t, g, full(g, 3, 0), full(g, 2, 0))
			for cuts := range 9 {
				if _, one := erases(c); one > cuts {
					t.Fatalf("%d erases behind %d cuts", one, cuts)
				}
				c.Cut(at, m)
				answers(t, c, l, 0, 50, api.ErrPower)
				c.Restore()
				stands(t, l, 0, 3, 0, false)
			}
			answers(t, c, l, 0, 50, api.OK)
			if zero, one := erases(c); zero != 0 || one > 10 {
				t.Fatalf("%d and %d erases behind 9 cuts", zero, one)
			}
		}
	}
}

// P9.1, R4: a log keeps its chip, and nothing else: what others do to that, by a log or by hand, each call sees.
func TestOtherHands(t *testing.T) {
	c, l := made(t, small())
	m := mounted(t, c)
	r := rand.New(rand.NewSource(99))
	logs := []*log.Log{l, m, mounted(t, c)}
	for n := int64(1); n <= 9; n++ {
		answers(t, c, logs[r.Intn(3)], r.Intn(2), n, api.OK)
		for _, x := range logs {
			told(t, "several logs", c, x)
		}
	}
	c, l = made(t, roomy())
	hands := []func() api.Errno{
		func() api.Errno { return c.Program(1, 0, head(5)) },
		func() api.Errno { return c.Program(1, 3, value(2, 9)) },
		func() api.Errno { return c.Program(0, 0, head(5)) },
		func() api.Errno { return c.Program(0, 7, all(0xf0)) },
		func() api.Errno { return c.Erase(1) },
		func() api.Errno { return c.Program(1, 0, head(6)) },
		func() api.Errno { return c.Program(1, 0, all(0x7f)) },
		func() api.Errno { return c.Erase(0) },
		func() api.Errno { return c.Erase(0) },
	}
	for _, hand := range hands {
		for range 2 {
			if e := hand(); e != api.OK {
				t.Fatal(e)
			}
			told(t, "by hand", c, l)
			d := c.Copy()
			laid(t, "by hand", d, mounted(t, d), 1, 7)
			hand = func() api.Errno { return l.Lay(1, of(c).number(1)+1) }
		}
	}
}

// P9.1: what one Log has seen, been refused, or been cut at, doesn't matter to the next call: behind a chip that was erased by hand it begins anew.
func TestBeginsAnew(t *testing.T) {
	g := small()
	g.Erases = 5
	c, l := made(t, g)
	for n := int64(1); n <= 9; n++ {
		answers(t, c, l, 0, 10*n, api.OK)
	}
	c.Erase(0)
	c.Erase(1)
	stands(t, l, -1, 0, 0, false)
	numbers(t, l, 0, 0)
	answers(t, c, l, 0, 1, api.OK)
	stands(t, l, 0, 1, 3, false)
	holds(t, c, 0, head(1), value(0, 1))
}

// R4: a log over a copy of a chip is another one: neither sees what is done to the other.
func TestCopies(t *testing.T) {
	c, l := made(t, small())
	answers(t, c, l, 0, 5, api.OK)
	d := c.Copy()
	m := mounted(t, d)
	answers(t, d, m, 0, 6, api.OK)
	answers(t, c, l, 1, 7, api.OK)
	numbers(t, l, 5, 7)
	numbers(t, m, 6, 0)
}

// P9.1: of a chip that isn't sound nothing is promised of cuts; but what lies there then is told, and laid behind.
func TestNotSound(t *testing.T) {
	c, l := filled(t, small(), full(small(), 3, 0), []api.Cell{all(0), all(0), all(0xff), all(0xff), all(0xff)})
	h, v := head(77), value(1, 88)
	c.Cut(0, slices.Concat(h[:], v[:], make([]byte, 96)))
	answers(t, c, l, 0, 50, api.ErrPower)
	c.Restore()
	stands(t, l, 1, 77, 3, false)
	numbers(t, l, 0, 88)
	answers(t, c, l, 0, 51, api.OK)
	numbers(t, l, 51, 88)
}

// R4: an answer hangs on the chip alone, whoever else asks a log of it at that time, and logs of other chips are laid beside it.
func TestManyAtOneTime(t *testing.T) {
	g := roomy()
	c, l := filled(t, g, full(g, 3, 2), full(g, 2, 0))
	want := of(c)
	var wg sync.WaitGroup
	for i := range 16 {
		d := c.Copy()
		m := mounted(t, d)
		wg.Go(func() {
			for k := range 200 {
				slot := (i + k) % 4
				if n, e := l.Number(slot); n != want.number(slot) || e != api.OK {
					t.Errorf("Number(%d): %d %v", slot, n, e)
				}
				if l.Present() != 0 || l.Generation() != 3 || l.Free() != 2 || l.Worn() {
					t.Error("a page is told otherwise")
				}
			}
			for n := int64(100); n < 110; n++ {
				if e := m.Lay(i%4, n); e != api.OK {
					t.Errorf("Lay(%d, %d): %v", i%4, n, e)
				}
			}
			if n, e := m.Number(i % 4); n != 109 || e != api.OK {
				t.Errorf("Number(%d): %d %v", i%4, n, e)
			}
		})
	}
	wg.Wait()
}
