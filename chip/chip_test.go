package chip_test

import (
	"bytes"
	"math"
	"math/rand"
	"reflect"
	"slices"
	"testing"

	"portcullis/api"
	"portcullis/chip"
)

// small is the config of the chapter's examples.
func small() api.Config {
	return api.Config{Cells: 4, Slots: 1, Fuses: 2, Step: 1, Keys: 1, Erases: 1}
}

// roomy has areas, and slots of which the fuses can be told apart from keys'.
func roomy() api.Config {
	return api.Config{Cells: 6, Slots: 3, Fuses: 5, Step: 7, Keys: 4, Erases: 3, Area: 2}
}

func greatest() api.Config {
	return api.Config{Cells: api.MaxCells, Slots: api.MaxSlots, Fuses: api.MaxFuses, Step: api.MaxStep, Keys: api.MaxKeys, Erases: api.MaxErases, Area: api.MaxArea}
}

func least() api.Config {
	return api.Config{Cells: 4, Slots: 1, Fuses: 1, Step: 1, Keys: 1}
}

func made(t *testing.T, c api.Config) *chip.Chip {
	t.Helper()
	x, e := chip.New(c)
	if e != api.OK || x == nil {
		t.Fatalf("New(%+v): %v %v", c, x, e)
	}
	return x
}

func laid(t *testing.T, c api.Config, s api.Chip) *chip.Chip {
	t.Helper()
	x, e := chip.Lay(c, s)
	if e != api.OK || x == nil {
		t.Fatalf("Lay(%+v): %v %v", c, x, e)
	}
	return x
}

func filled(v byte) api.Cell {
	return api.Cell(bytes.Repeat([]byte{v}, 32))
}

func anyCell(r *rand.Rand) api.Cell {
	var x api.Cell
	r.Read(x[:])
	return x
}

func row(r *rand.Rand, n int) []byte {
	b := make([]byte, n)
	r.Read(b)
	return b
}

func is(t *testing.T, what string, got, want api.Errno) {
	t.Helper()
	if got != want {
		t.Fatalf("%s: %v, want %v", what, got, want)
	}
}

func reads(t *testing.T, c *chip.Chip, page, cell int, want api.Cell) {
	t.Helper()
	if x, e := c.Read(page, cell); x != want || e != api.OK {
		t.Fatalf("Read(%d, %d): %x %v, want %x", page, cell, x, e, want)
	}
}

func blown(t *testing.T, c *chip.Chip, i int, want bool) {
	t.Helper()
	if b, e := c.Blown(i); b != want || e != api.OK {
		t.Fatalf("Blown(%d): %v %v, want %v", i, b, e, want)
	}
}

func erased(t *testing.T, c *chip.Chip, page, want int) {
	t.Helper()
	if n, e := c.Erases(page); n != want || e != api.OK {
		t.Fatalf("Erases(%d): %d %v, want %d", page, n, e, want)
	}
}

func acts(t *testing.T, c *chip.Chip, want int) {
	t.Helper()
	if c.Acts() != want {
		t.Fatalf("Acts: %d, want %d", c.Acts(), want)
	}
}

func holds(t *testing.T, what string, c *chip.Chip, want api.Chip) {
	t.Helper()
	if got := c.State(); !reflect.DeepEqual(got, want) {
		t.Fatalf("%s: holds\n%v, want\n%v", what, got, want)
	}
}

// P4.1: the chapter's example 1.
func TestExampleActs(t *testing.T) {
	c := made(t, small())
	reads(t, c, 0, 0, filled(0xff))
	is(t, "Program", c.Program(0, 0, api.Cell{}), api.OK)
	reads(t, c, 0, 0, api.Cell{})
	is(t, "Program blank", c.Program(0, 0, filled(0xff)), api.OK)
	reads(t, c, 0, 0, api.Cell{})
	for _, p := range [][2]int{{0, 4}, {2, 0}} {
		_, e := c.Read(p[0], p[1])
		is(t, "Read", e, api.ErrRange)
	}
	is(t, "Erase", c.Erase(0), api.OK)
	is(t, "Erase again", c.Erase(0), api.ErrWorn)
	erased(t, c, 0, 1)
	acts(t, c, 3)
}

// P4.1, P4.2: the chapter's example 2.
func TestExampleCutProgram(t *testing.T) {
	c := made(t, small())
	c.Cut(1, []byte{0x0f})
	is(t, "Program", c.Program(1, 0, api.Cell{}), api.OK)
	is(t, "Program, cut", c.Program(1, 1, api.Cell{}), api.ErrPower)
	_, e := c.Read(1, 1)
	is(t, "Read", e, api.ErrPower)
	c.Restore()
	reads(t, c, 1, 1, filled(0xf0))
	is(t, "Program behind it", c.Program(1, 2, api.Cell{}), api.OK)
	acts(t, c, 3)
}

// P4.1, P4.2: the chapter's example 3.
func TestExampleCutBlowAndErase(t *testing.T) {
	c := made(t, small())
	is(t, "Program", c.Program(1, 3, filled(0x5a)), api.OK)
	c.Cut(0, []byte{0x02})
	is(t, "Blow, another bit", c.Blow(2), api.ErrPower)
	c.Restore()
	blown(t, c, 2, false)
	c.Cut(0, []byte{0x01})
	is(t, "Blow, its bit", c.Blow(2), api.ErrPower)
	c.Restore()
	blown(t, c, 2, true)
	c.Cut(0, nil)
	is(t, "Erase, no mask", c.Erase(1), api.ErrPower)
	c.Restore()
	erased(t, c, 1, 1)
	reads(t, c, 1, 3, filled(0x5a))
}

// P4.1: the chapter's example 4.
func TestExampleNoCut(t *testing.T) {
	c := made(t, small())
	c.Cut(0, []byte{1})
	c.Cut(-1, nil)
	is(t, "Blow", c.Blow(0), api.OK)
	is(t, "Blow", c.Blow(3), api.ErrRange)
	_, e := c.Blown(-1)
	is(t, "Blown", e, api.ErrRange)
}

// P4.1: a config may be up to the limits that the Words name and from their least numbers on, one field at a time; New and Lay refuse what May does.
func TestMayEachField(t *testing.T) {
	for _, x := range []struct {
		name        string
		field       func(*api.Config) *int
		least, most int
	}{
		{"Fuses", func(c *api.Config) *int { return &c.Fuses }, 1, 64},
		{"Step", func(c *api.Config) *int { return &c.Step }, 1, 65536},
		{"Keys", func(c *api.Config) *int { return &c.Keys }, 1, 64},
		{"Erases", func(c *api.Config) *int { return &c.Erases }, 0, 65536},
		{"Area", func(c *api.Config) *int { return &c.Area }, 0, 64},
		{"Cells", func(c *api.Config) *int { return &c.Cells }, 5, 256},
		{"Slots", func(c *api.Config) *int { return &c.Slots }, 1, 2},
	} {
		for _, n := range []int{x.least, x.least + 1, x.most, x.least - 1, x.most + 1, -1, -x.least - 1, math.MinInt, math.MaxInt, math.MaxInt - 2} {
			c := api.Config{Cells: 5, Slots: 2, Fuses: 2, Step: 3, Keys: 2, Erases: 2}
			*x.field(&c) = n
			asked(t, c, x.least <= n && n <= x.most)
		}
	}
}

// P4.1: how many cells a page must have hangs on the slots.
func TestMaySlotsAndCells(t *testing.T) {
	for slots := -4; slots < 12; slots++ {
		for _, cells := range []int{-1, 0, 1, 2, slots, slots + 1, slots + 2, slots + 3, slots + 4, 255, 256, 257} {
			c := api.Config{Cells: cells, Slots: slots, Fuses: 1, Step: 1, Keys: 1}
			asked(t, c, 1 <= slots && slots <= 8 && cells >= slots+3 && cells <= 256)
		}
	}
	asked(t, api.Config{}, false)
	asked(t, least(), true)
	asked(t, greatest(), true)
	asked(t, small(), true)
}

func asked(t *testing.T, c api.Config, may bool) {
	t.Helper()
	want := api.ErrArg
	if may {
		want = api.OK
	}
	is(t, "May", chip.May(c), want)
	x, e := chip.New(c)
	if e != want || (x != nil) != may {
		t.Fatalf("New(%+v): %v %v", c, x, e)
	}
	if !may {
		y, e := chip.Lay(c, made(t, small()).State())
		if e != want || y != nil {
			t.Fatalf("Lay(%+v): %v %v", c, y, e)
		}
	}
}

// P4.1: a chip as it is at first: so many pages, cells and fuses as the Words say, all blank; its power is there, no cut waits.
func TestNewAtFirst(t *testing.T) {
	for _, x := range []struct {
		c            api.Config
		pages, fuses int
	}{{small(), 2, 3}, {roomy(), 6, 19}, {least(), 2, 2}, {greatest(), 130, 576}} {
		c := made(t, x.c)
		if c.Config() != x.c || c.Out() {
			t.Fatalf("%+v: %+v %v", x.c, c.Config(), c.Out())
		}
		acts(t, c, 0)
		s := c.State()
		if len(s.Pages) != x.pages || len(s.Erases) != x.pages || len(s.Blown) != x.fuses {
			t.Fatalf("%+v: %d pages, %d erases, %d fuses", x.c, len(s.Pages), len(s.Erases), len(s.Blown))
		}
		for p := range x.pages {
			if len(s.Pages[p]) != x.c.Cells {
				t.Fatalf("page %d: %d cells", p, len(s.Pages[p]))
			}
			erased(t, c, p, 0)
			for k := range x.c.Cells {
				reads(t, c, p, k, filled(0xff))
			}
		}
		for i := range x.fuses {
			blown(t, c, i, false)
		}
		holds(t, "at first", c, newToy(x.c).state())
		for i := range x.fuses {
			is(t, "Blow", c.Blow(i), api.OK)
		}
		acts(t, c, x.fuses)
	}
}

// P4.1: pages, cells and fuses below 0 and from one past the last on: ErrRange, beside zero values; no act is counted, and no cut comes nearer.
func TestRange(t *testing.T) {
	for _, x := range []api.Config{small(), roomy(), least(), greatest()} {
		c := made(t, x)
		pages, fuses := 2+2*x.Area, x.Slots*x.Fuses+x.Keys
		for p := range pages {
			is(t, "Program", c.Program(p, x.Cells-1, api.Cell{}), api.OK)
		}
		was := c.State()
		c.Cut(0, []byte{0xff})
		for _, far := range []int{0, 1, 100, math.MaxInt - 10000} {
			for _, p := range []int{-1 - far, pages + far} {
				refused(t, c, p, 0, api.ErrRange)
				refused(t, c, p, x.Cells, api.ErrRange)
				refusedPage(t, c, p, api.ErrRange)
			}
			for _, k := range []int{-1 - far, x.Cells + far} {
				refused(t, c, 0, k, api.ErrRange)
				refused(t, c, pages-1, k, api.ErrRange)
			}
			for _, i := range []int{-1 - far, fuses + far} {
				refusedFuse(t, c, i, api.ErrRange)
			}
		}
		refused(t, c, math.MinInt, math.MaxInt, api.ErrRange)
		refusedPage(t, c, math.MaxInt, api.ErrRange)
		refusedFuse(t, c, math.MinInt, api.ErrRange)
		acts(t, c, pages)
		holds(t, "refused", c, was)
		is(t, "the last fuse, with the cut that waited", c.Blow(fuses-1), api.ErrPower)
	}
}

func refused(t *testing.T, c *chip.Chip, page, cell int, want api.Errno) {
	t.Helper()
	if x, e := c.Read(page, cell); x != (api.Cell{}) || e != want {
		t.Fatalf("Read(%d, %d): %x %v", page, cell, x, e)
	}
	is(t, "Program", c.Program(page, cell, api.Cell{}), want)
}

func refusedPage(t *testing.T, c *chip.Chip, page int, want api.Errno) {
	t.Helper()
	if n, e := c.Erases(page); n != 0 || e != want {
		t.Fatalf("Erases(%d): %d %v", page, n, e)
	}
	is(t, "Erase", c.Erase(page), want)
}

func refusedFuse(t *testing.T, c *chip.Chip, i int, want api.Errno) {
	t.Helper()
	if b, e := c.Blown(i); b || e != want {
		t.Fatalf("Blown(%d): %v %v", i, b, e)
	}
	is(t, "Blow", c.Blow(i), want)
}

// P4.1: a page erased as often as the config's Erases says is worn; that is no act and no erase, and the other pages, and programming, go on.
func TestWorn(t *testing.T) {
	for _, n := range []int{0, 1, 2, 5, api.MaxErases} {
		x := roomy()
		x.Erases = n
		c := made(t, x)
		for p := range 6 {
			for i := range n {
				erased(t, c, p, i)
				is(t, "Erase", c.Erase(p), api.OK)
			}
			is(t, "Program", c.Program(p, 1, filled(0x11)), api.OK)
			c.Cut(0, []byte{0xff})
			for range 3 {
				is(t, "Erase of a worn page", c.Erase(p), api.ErrWorn)
			}
			c.Cut(-1, nil)
			reads(t, c, p, 1, filled(0x11))
			erased(t, c, p, n)
			acts(t, c, (p+1)*(n+1))
		}
	}
}

// P4.1: cut erases count towards wear as whole ones do.
func TestWornByCuts(t *testing.T) {
	x := small()
	x.Erases = 3
	for _, mask := range [][]byte{nil, {0}, {0xff}, {0x3c}} {
		c := made(t, x)
		for i := range 3 {
			c.Cut(0, mask)
			is(t, "Erase, cut", c.Erase(0), api.ErrPower)
			c.Restore()
			erased(t, c, 0, i+1)
		}
		is(t, "Erase", c.Erase(0), api.ErrWorn)
		erased(t, c, 1, 0)
		acts(t, c, 3)
	}
}

// P4.1: what was laid with erases above the config's is worn, too.
func TestWornAsLaid(t *testing.T) {
	for _, n := range []int{2, 3, 4, 65537, math.MaxInt} {
		s := made(t, roomy()).State()
		s.Erases[3] = n
		c := laid(t, roomy(), s)
		erased(t, c, 3, n)
		if n < 3 {
			is(t, "Erase", c.Erase(3), api.OK)
			erased(t, c, 3, 3)
		}
		is(t, "Erase", c.Erase(3), api.ErrWorn)
		is(t, "Erase of another page", c.Erase(2), api.OK)
	}
}

// P4.1: a cut at the act number n from now on: those ahead of it are whole, refused calls and reading don't count, and it is counted itself.
func TestCutAtEach(t *testing.T) {
	for n := range 12 {
		for _, before := range []int{0, 1, 5} {
			c := made(t, roomy())
			for i := range before {
				is(t, "Blow ahead of it", c.Blow(i), api.OK)
			}
			c.Cut(n, []byte{0xff})
			for i := range n {
				is(t, "refused", c.Program(0, 6, api.Cell{}), api.ErrRange)
				reads(t, c, 0, 0, filled(0xff))
				is(t, "Blow", c.Blow(i), api.OK)
				blown(t, c, i, true)
			}
			if c.Out() {
				t.Fatal("the power is gone too early")
			}
			is(t, "Blow, cut", c.Blow(18), api.ErrPower)
			if !c.Out() {
				t.Fatal("the power is there")
			}
			acts(t, c, before+n+1)
			c.Restore()
			blown(t, c, 18, true)
		}
	}
}

// P4.1: a cut waits for whichever act comes, and of no act of before: of each kind at each place.
func TestCutAtEachKind(t *testing.T) {
	for n := range 6 {
		c := made(t, roomy())
		c.Cut(n, []byte{0xff})
		for i := range n + 1 {
			want := api.OK
			if i == n {
				want = api.ErrPower
			}
			switch i % 3 {
			case 0:
				is(t, "Program", c.Program(i, i, api.Cell{}), want)
			case 1:
				is(t, "Erase", c.Erase(i), want)
			case 2:
				is(t, "Blow", c.Blow(i), want)
			}
		}
	}
}

// P4.1: with n below 0 none waits; with n so great that no act comes so far, none is ever cut.
func TestCutAtNone(t *testing.T) {
	for _, n := range []int{-1, -2, math.MinInt, math.MaxInt, math.MaxInt - 1, math.MaxInt - 40} {
		for _, before := range []int{0, 3} {
			c := made(t, roomy())
			for i := range before {
				is(t, "Blow ahead of it", c.Blow(i), api.OK)
			}
			c.Cut(0, []byte{1})
			c.Cut(n, []byte{1})
			for range 30 {
				is(t, "Blow", c.Blow(4), api.OK)
			}
		}
	}
}

// P4.1: a cut takes the place of the one that waited, its number and its mask.
func TestCutTakesThePlace(t *testing.T) {
	c := made(t, small())
	c.Cut(0, []byte{0xff})
	c.Cut(2, []byte{0x0f, 0xf0})
	is(t, "the first", c.Program(0, 0, api.Cell{}), api.OK)
	is(t, "the second", c.Program(0, 1, api.Cell{}), api.OK)
	is(t, "the third", c.Program(0, 2, api.Cell{}), api.ErrPower)
	c.Restore()
	var want api.Cell
	for i := range want {
		want[i] = 0xf0 >> (i % 2 * 4)
	}
	reads(t, c, 0, 2, want)
	c.Cut(5, []byte{0xff})
	c.Cut(0, nil)
	is(t, "earlier", c.Program(0, 3, api.Cell{}), api.ErrPower)
	c.Restore()
	reads(t, c, 0, 3, filled(0xff))
	for range 10 {
		is(t, "the later one has gone, too", c.Blow(0), api.OK)
	}
}

// P4.1: when the power has gone none waits, so that behind Restore nothing is cut.
func TestCutOnce(t *testing.T) {
	c := made(t, small())
	c.Cut(0, []byte{0xff})
	is(t, "cut", c.Blow(0), api.ErrPower)
	c.Restore()
	for range 5 {
		is(t, "behind it", c.Blow(0), api.OK)
	}
	if c.Out() {
		t.Error("the power is gone")
	}
	acts(t, c, 6)
}

// P4.1: Cut while the power is gone: it waits till the power is there; calls that are refused meanwhile don't count.
func TestCutWhileGone(t *testing.T) {
	c := made(t, small())
	c.Cut(0, nil)
	is(t, "cut", c.Blow(0), api.ErrPower)
	c.Cut(1, []byte{0x01})
	for range 5 {
		is(t, "gone", c.Blow(0), api.ErrPower)
	}
	if !c.Out() {
		t.Fatal("Cut has brought the power back")
	}
	acts(t, c, 1)
	c.Restore()
	is(t, "the next", c.Blow(0), api.OK)
	is(t, "the one behind", c.Blow(1), api.ErrPower)
	c.Cut(0, nil)
	c.Cut(-1, nil)
	c.Restore()
	is(t, "none waits", c.Blow(1), api.OK)
}

// P4.1: Restore, the power being there, does nothing: the cut waits on.
func TestRestoreWithPower(t *testing.T) {
	c := made(t, small())
	c.Restore()
	c.Cut(1, []byte{0xff})
	c.Restore()
	is(t, "the next", c.Blow(0), api.OK)
	c.Restore()
	was := c.State()
	c.Restore()
	holds(t, "Restore", c, was)
	acts(t, c, 1)
	is(t, "the one behind", c.Blow(1), api.ErrPower)
}

// P4.1, R2: while the power is gone all others answer ErrPower beside zero values, ahead of ErrRange and ErrWorn, and do nothing; Config, State, Copy, Acts and Out answer.
func TestWhileGone(t *testing.T) {
	c := made(t, small())
	is(t, "Program", c.Program(1, 1, filled(0x33)), api.OK)
	is(t, "Erase", c.Erase(0), api.OK)
	c.Cut(0, []byte{0xff})
	is(t, "Blow", c.Blow(1), api.ErrPower)
	want := newToy(small())
	want.program(1, 1, filled(0x33))
	want.erase(0)
	want.blow(1)
	for _, x := range []*chip.Chip{c, c.Copy()} {
		for _, p := range []int{0, 1, -1, 2, math.MinInt, math.MaxInt} {
			for _, k := range []int{0, 1, 3, 4, -1} {
				refused(t, x, p, k, api.ErrPower)
			}
			refusedPage(t, x, p, api.ErrPower)
		}
		for _, i := range []int{0, 1, 2, 3, -1} {
			refusedFuse(t, x, i, api.ErrPower)
		}
		holds(t, "gone", x, want.state())
		acts(t, x, 3)
		if !x.Out() || x.Config() != small() {
			t.Fatalf("Out: %v, Config: %+v", x.Out(), x.Config())
		}
	}
}

// masks are those that the document names, and of lengths about those of a cell and of a page of cells cells.
func masks(r *rand.Rand, cells int) [][]byte {
	ms := [][]byte{nil, {}, {0x00}, {0xff}, {0x01}, {0xfe}, {0x80}, {0x0f}, {0xf0}, {0x00, 0xff}, {0xff, 0x00}, {0, 0, 1}}
	for _, n := range []int{1, 2, 3, 31, 32, 33, 63, 64, 65, cells*32 - 1, cells * 32, cells*32 + 1, 3 * cells * 32} {
		ms = append(ms, row(r, n))
	}
	alone := make([]byte, cells*32)
	alone[cells*32-1] = 0x40
	return append(ms, alone, bytes.Repeat([]byte{0xff}, cells*32+7), make([]byte, 40))
}

// P4.2: what a cut leaves, bit by bit, of each kind of act, over anything that was there, for all kinds of masks.
func TestCutLeaves(t *testing.T) {
	r := rand.New(rand.NewSource(1))
	for _, x := range []api.Config{small(), roomy(), {Cells: 256, Slots: 1, Fuses: 1, Step: 1, Keys: 1, Erases: 9}} {
		for _, mask := range masks(r, x.Cells) {
			cutActs(t, r, both{made(t, x), newToy(x)}, mask)
		}
	}
}

// cutActs cuts an act of each kind over cells that hold anything, two times each.
func cutActs(t *testing.T, r *rand.Rand, b both, mask []byte) {
	t.Helper()
	cells := b.y.config.Cells
	for range 2 {
		for k := range min(cells, 20) {
			v := anyCell(r)
			is(t, "Program", b.c.Program(1, k, v), b.y.program(1, k, v))
		}
		last := anyCell(r)
		is(t, "Program", b.c.Program(1, cells-1, last), b.y.program(1, cells-1, last))
		for kind := range 3 {
			b.c.Cut(0, mask)
			b.y.cut(0, mask)
			v, k := anyCell(r), r.Intn(cells)
			switch kind {
			case 0:
				is(t, "Program, cut", b.c.Program(1, k, v), b.y.program(1, k, v))
			case 1:
				is(t, "Blow, cut", b.c.Blow(1), b.y.blow(1))
			case 2:
				is(t, "Erase, cut", b.c.Erase(1), b.y.erase(1))
			}
			b.c.Restore()
			b.y.out = false
			holds(t, "cut", b.c, b.y.state())
		}
	}
}

// P4.2: with a mask of ones a cut act is the whole act, with one of zeros, or of no bytes, nothing but that an erase counts; with any it lies between.
func TestCutBetween(t *testing.T) {
	r := rand.New(rand.NewSource(2))
	for n := range 300 {
		c := made(t, small())
		for k := range 4 {
			is(t, "Program", c.Program(0, k, anyCell(r)), api.OK)
		}
		do := []func(*chip.Chip) api.Errno{
			func(c *chip.Chip) api.Errno { return c.Program(0, n%4, filled(byte(n))) },
			func(c *chip.Chip) api.Errno { return c.Erase(0) },
			func(c *chip.Chip) api.Errno { return c.Blow(n / 3 % 3) },
		}[n%3]
		whole := c.Copy()
		is(t, "whole", do(whole), api.OK)
		left := func(mask []byte) api.Chip {
			d := c.Copy()
			d.Cut(0, mask)
			is(t, "cut", do(d), api.ErrPower)
			return d.State()
		}
		nothing := c.State()
		if n%3 == 1 {
			nothing.Erases[0]++
		}
		size := n%40 + 1
		for _, zeros := range [][]byte{nil, {}, make([]byte, size)} {
			if !reflect.DeepEqual(left(zeros), nothing) {
				t.Fatalf("%d: a mask of %d zeros changes something", n, len(zeros))
			}
		}
		if !reflect.DeepEqual(left(bytes.Repeat([]byte{0xff}, size)), whole.State()) {
			t.Fatalf("%d: a mask of ones is not the whole act", n)
		}
		between(t, nothing, left(row(r, size)), whole.State())
	}
}

// between fails if got has a bit that neither a nor b has so.
func between(t *testing.T, a, got, b api.Chip) {
	t.Helper()
	for p, page := range got.Pages {
		for k, x := range page {
			for i := range x {
				if (x[i]^a.Pages[p][k][i])&(x[i]^b.Pages[p][k][i]) != 0 {
					t.Fatalf("page %d, cell %d, byte %d: %02x", p, k, i, x[i])
				}
			}
		}
	}
	for i, is := range got.Blown {
		if is != a.Blown[i] && is != b.Blown[i] {
			t.Fatalf("fuse %d: %v", i, is)
		}
	}
}

// P4.2: all masks of one byte, over all bytes that are there.
func TestCutEachByte(t *testing.T) {
	c := made(t, api.Config{Cells: 4, Slots: 1, Fuses: 1, Step: 1, Keys: 1, Erases: 65536})
	var was, by api.Cell
	for m := range 256 {
		for i := range 32 {
			was[i], by[i] = byte(m+i*8), byte(i*i+m*7)
		}
		c.Program(0, 2, was)
		c.Cut(0, []byte{byte(m)})
		is(t, "Program", c.Program(0, 2, by), api.ErrPower)
		c.Restore()
		x, _ := c.Read(0, 2)
		c.Cut(0, []byte{byte(m)})
		is(t, "Erase", c.Erase(0), api.ErrPower)
		c.Restore()
		y, _ := c.Read(0, 2)
		for i := range 32 {
			if x[i] != was[i]&^byte(m)|was[i]&by[i]&byte(m) || y[i] != x[i]|byte(m) {
				t.Fatalf("mask %02x: %02x, programmed %02x: %02x, erased: %02x", m, was[i], by[i], x[i], y[i])
			}
		}
		is(t, "Erase", c.Erase(0), api.OK)
	}
}

// P4.2: a fuse hangs on the lowest bit of the mask's first byte alone.
func TestCutFuse(t *testing.T) {
	for m := range 256 {
		for _, rest := range [][]byte{nil, {0}, {0xff}} {
			c := made(t, small())
			c.Cut(0, append([]byte{byte(m)}, rest...))
			is(t, "Blow", c.Blow(1), api.ErrPower)
			c.Restore()
			blown(t, c, 1, m%2 == 1)
			blown(t, c, 0, false)
			blown(t, c, 2, false)
		}
	}
}

// P4.3: Program never makes a 0 a 1, Erase never a 1 a 0, a blown fuse stays blown, and what no act was about stays as it was; cut or not.
func TestNeverBack(t *testing.T) {
	r := rand.New(rand.NewSource(3))
	x := roomy()
	x.Erases = 1000
	c := made(t, x)
	for range 4000 {
		if r.Intn(4) == 0 {
			c.Cut(0, row(r, r.Intn(5)))
		}
		was := c.State()
		page, cell, fuse := r.Intn(6), r.Intn(6), r.Intn(19)
		kind := r.Intn(3)
		switch kind {
		case 0:
			c.Program(page, cell, anyCell(r))
		case 1:
			c.Erase(page)
		case 2:
			c.Blow(fuse)
		}
		now := c.State()
		for p := range now.Pages {
			for k := range now.Pages[p] {
				a, b := was.Pages[p][k], now.Pages[p][k]
				about := p == page && (kind == 0 && k == cell || kind == 1)
				if a != b && (!about || rises(a, b) != (kind == 1) || rises(b, a) != (kind == 0)) {
					t.Fatalf("kind %d of page %d, cell %d: page %d, cell %d: %x, %x", kind, page, cell, p, k, a, b)
				}
			}
		}
		for i := range now.Blown {
			if was.Blown[i] && !now.Blown[i] || now.Blown[i] != was.Blown[i] && (kind != 2 || i != fuse) {
				t.Fatalf("kind %d, fuse %d: fuse %d: %v, %v", kind, fuse, i, was.Blown[i], now.Blown[i])
			}
		}
		for p := range now.Erases {
			more := 0
			if kind == 1 && p == page {
				more = 1
			}
			if now.Erases[p] != was.Erases[p]+more {
				t.Fatalf("kind %d, page %d: erases of the page %d: %d, %d", kind, page, p, was.Erases[p], now.Erases[p])
			}
		}
		c.Restore()
	}
}

// rises tells whether b has all ones that a has.
func rises(a, b api.Cell) bool {
	for i := range a {
		if a[i]&^b[i] != 0 {
			return false
		}
	}
	return true
}

// P4.3: acts are done whatever is there: a blown fuse is blown again, a blank page erased, a cell programmed with what it holds; each is an act.
func TestActsOverTheSame(t *testing.T) {
	c := made(t, roomy())
	for i := range 3 {
		is(t, "Blow", c.Blow(7), api.OK)
		blown(t, c, 7, true)
		is(t, "Erase", c.Erase(4), api.OK)
		erased(t, c, 4, i+1)
		is(t, "Program", c.Program(5, 5, filled(0x42)), api.OK)
		reads(t, c, 5, 5, filled(0x42))
		acts(t, c, 3*i+3)
	}
	c.Cut(0, nil)
	is(t, "Blow, cut", c.Blow(7), api.ErrPower)
	c.Restore()
	blown(t, c, 7, true)
}

// P4.1: calls of all kinds at wrong and right places, in any order, cuts and restorings among them, told to a chip and to the toy.
func TestAnyOrder(t *testing.T) {
	r := rand.New(rand.NewSource(4))
	for n := range 150 {
		x := api.Config{Slots: 1 + r.Intn(3), Fuses: 1 + r.Intn(3), Step: 1 + r.Intn(9), Keys: 1 + r.Intn(3), Erases: r.Intn(5), Area: r.Intn(3)}
		x.Cells = x.Slots + 3 + r.Intn(3)
		b := both{made(t, x), newToy(x)}
		for range 200 {
			step(t, r, b)
			if r.Intn(40) == 0 {
				b.c = b.c.Copy()
			}
		}
		holds(t, "at last", b.c, b.y.state())
		if n%10 == 0 {
			b.c = laid(t, x, b.c.State())
			holds(t, "laid again", b.c, b.y.state())
		}
	}
}

// step tells both one thing, and holds their answers against each other.
func step(t *testing.T, r *rand.Rand, b both) {
	t.Helper()
	x := b.y.config
	page, cell, fuse := r.Intn(4+2*x.Area)-1, r.Intn(x.Cells+2)-1, r.Intn(len(b.y.blown)+2)-1
	v := anyCell(r)
	switch r.Intn(9) {
	case 0, 1:
		is(t, "Program", b.c.Program(page, cell, v), b.y.program(page, cell, v))
	case 2:
		is(t, "Erase", b.c.Erase(page), b.y.erase(page))
	case 3:
		is(t, "Blow", b.c.Blow(fuse), b.y.blow(fuse))
	case 4:
		got, e := b.c.Read(page, cell)
		want, f := b.y.read(page, cell)
		if got != want || e != f {
			t.Fatalf("Read(%d, %d): %x %v, want %x %v", page, cell, got, e, want, f)
		}
	case 5:
		got, e := b.c.Blown(fuse)
		f := b.y.refused(fuse, len(b.y.blown))
		if e != f || got != (e == api.OK && b.y.blown[fuse]) {
			t.Fatalf("Blown(%d): %v %v, want %v", fuse, got, e, f)
		}
	case 6:
		got, e := b.c.Erases(page)
		f := b.y.refused(page, len(b.y.erases))
		if e != f || e == api.OK && got != b.y.erases[page] || e != api.OK && got != 0 {
			t.Fatalf("Erases(%d): %d %v, want %v", page, got, e, f)
		}
	case 7:
		at, mask := r.Intn(12)-2, row(r, r.Intn(70))
		b.c.Cut(at, mask)
		b.y.cut(at, mask)
	case 8:
		b.c.Restore()
		b.y.out = false
	}
	if b.c.Acts() != b.y.acts || b.c.Out() != b.y.out || b.c.Config() != x {
		t.Fatalf("Acts: %d, want %d; Out: %v, want %v", b.c.Acts(), b.y.acts, b.c.Out(), b.y.out)
	}
}

// something makes a chip that holds something in all its parts.
func something(t *testing.T, r *rand.Rand, x api.Config) *chip.Chip {
	t.Helper()
	c := made(t, x)
	for p := range 2 + 2*x.Area {
		for i := 0; i < min(p, x.Erases); i++ {
			is(t, "Erase", c.Erase(p), api.OK)
		}
		for k := range x.Cells {
			if k%3 != 2 {
				is(t, "Program", c.Program(p, k, anyCell(r)), api.OK)
			}
		}
	}
	for i := 0; i < x.Slots*x.Fuses+x.Keys; i += 2 {
		is(t, "Blow", c.Blow(i), api.OK)
	}
	return c
}

// P4.4: what State tells Lay takes, for the same config, and State of that tells it again; otherwise the chip is as New tells it: no act done, its power there, no cut waiting.
func TestLayWhatStateTells(t *testing.T) {
	r := rand.New(rand.NewSource(5))
	for _, x := range []api.Config{small(), roomy(), least(), greatest()} {
		c := something(t, r, x)
		c.Cut(0, []byte{0x55})
		is(t, "cut", c.Program(1, 3, api.Cell{}), api.ErrPower)
		c.Cut(0, []byte{0xff})
		s := c.State()
		d := laid(t, x, s)
		holds(t, "laid", d, s)
		acts(t, d, 0)
		if d.Out() || d.Config() != x {
			t.Fatalf("%v %+v", d.Out(), d.Config())
		}
		is(t, "no cut waits", d.Blow(0), api.OK)
		acts(t, d, 1)
	}
}

// P4.4: a hand-made state is taken as it is, Erases above the config's and all.
func TestLayHandMade(t *testing.T) {
	r := rand.New(rand.NewSource(6))
	x := roomy()
	for range 50 {
		s := newToy(x).state()
		for p := range s.Pages {
			s.Erases[p] = r.Intn(10)
			for k := range s.Pages[p] {
				s.Pages[p][k] = anyCell(r)
			}
		}
		for i := range s.Blown {
			s.Blown[i] = r.Intn(2) == 0
		}
		c := laid(t, x, s)
		holds(t, "laid", c, s)
		for p := range s.Pages {
			erased(t, c, p, s.Erases[p])
			for k := range s.Pages[p] {
				reads(t, c, p, k, s.Pages[p][k])
			}
		}
		for i := range s.Blown {
			blown(t, c, i, s.Blown[i])
		}
	}
}

// P4.1: states that lack a page, a cell, a number of Erases or a fuse, or have one too many, and Erases below 0, are none.
func TestLayForm(t *testing.T) {
	for name, spoil := range map[string]func(*api.Chip){
		"nothing":               func(s *api.Chip) { *s = api.Chip{} },
		"no pages":              func(s *api.Chip) { s.Pages = nil },
		"a page less":           func(s *api.Chip) { s.Pages = s.Pages[1:] },
		"a page more":           func(s *api.Chip) { s.Pages = append(s.Pages, slices.Clone(s.Pages[0])) },
		"a page, an erase less": func(s *api.Chip) { s.Pages, s.Erases = s.Pages[1:], s.Erases[1:] },
		"a page, an erase more": func(s *api.Chip) { s.Pages, s.Erases = append(s.Pages, s.Pages[0]), append(s.Erases, 0) },
		"only the log's":        func(s *api.Chip) { s.Pages, s.Erases = s.Pages[:2], s.Erases[:2] },
		"no erases":             func(s *api.Chip) { s.Erases = nil },
		"an erase less":         func(s *api.Chip) { s.Erases = s.Erases[1:] },
		"an erase more":         func(s *api.Chip) { s.Erases = append(s.Erases, 0) },
		"no fuses":              func(s *api.Chip) { s.Blown = nil },
		"a fuse less":           func(s *api.Chip) { s.Blown = s.Blown[1:] },
		"a fuse more":           func(s *api.Chip) { s.Blown = append(s.Blown, false) },
		"no keys' fuses":        func(s *api.Chip) { s.Blown = s.Blown[:15] },
	} {
		s := newToy(roomy()).state()
		spoil(&s)
		formless(t, name, s)
	}
	for p := range 6 {
		for _, cells := range []int{0, 5, 7, 12} {
			s := newToy(roomy()).state()
			s.Pages[p] = make([]api.Cell, cells)
			formless(t, "cells of a page", s)
		}
		for _, n := range []int{-1, -2, math.MinInt} {
			s := newToy(roomy()).state()
			s.Erases[p] = n
			formless(t, "Erases below 0", s)
		}
		s := newToy(roomy()).state()
		s.Pages[p] = nil
		formless(t, "a page without cells", s)
		q := (p + 1) % 6
		s = newToy(roomy()).state()
		s.Pages[p], s.Pages[q] = s.Pages[p][1:], append(s.Pages[q], api.Cell{})
		formless(t, "as many cells in all", s)
	}
}

func formless(t *testing.T, what string, s api.Chip) {
	t.Helper()
	if c, e := chip.Lay(roomy(), s); c != nil || e != api.ErrForm {
		t.Fatalf("%s: %v %v", what, c, e)
	}
}

// P4.1: a copy is the same in all: what it holds, acts, power, the cut that waits.
func TestCopyIsTheSame(t *testing.T) {
	r := rand.New(rand.NewSource(7))
	c := something(t, r, roomy())
	c.Cut(2, []byte{0x0f, 0x3c})
	is(t, "an act of the three", c.Blow(1), api.OK)
	for range 3 {
		d := c.Copy()
		if d == c || d.Acts() != c.Acts() || d.Out() != c.Out() || d.Config() != c.Config() {
			t.Fatal("a copy that isn't")
		}
		holds(t, "copy", d, c.State())
		is(t, "the second", d.Blow(3), api.OK)
		is(t, "the third", d.Program(0, 2, api.Cell{}), api.ErrPower)
		gone := d.Copy()
		if !gone.Out() || gone.Acts() != d.Acts() {
			t.Fatal("a copy of one without power has some")
		}
		gone.Restore()
		if !d.Out() {
			t.Fatal("the copy's power is the first one's")
		}
		x, e := gone.Read(0, 2)
		if x[0] != 0xf0 || x[1] != 0xc3 || x[30] != 0xf0 || x[31] != 0xc3 || e != api.OK {
			t.Fatalf("%x %v", x, e)
		}
	}
}

// P4.1: chips and copies of them go on beside each other, each as if it were alone.
func TestCopiesGoOn(t *testing.T) {
	r := rand.New(rand.NewSource(8))
	x := roomy()
	all := []both{{made(t, x), newToy(x)}}
	for range 3000 {
		b := all[r.Intn(len(all))]
		step(t, r, b)
		if len(all) < 12 && r.Intn(100) == 0 {
			all = append(all, both{b.c.Copy(), b.y.copied()})
		}
	}
	if len(all) < 12 {
		t.Fatalf("%d copies", len(all))
	}
	for _, b := range all {
		holds(t, "gone on", b.c, b.y.state())
	}
}

func (y *toy) copied() *toy {
	z := *y
	z.flash = nil
	for _, page := range y.flash {
		z.flash = append(z.flash, slices.Clone(page))
	}
	z.erases, z.blown, z.waits = slices.Clone(y.erases), slices.Clone(y.blown), slices.Clone(y.waits)
	return &z
}

// P4.5: what State told may be written over: neither the chip, nor a copy, nor what it tells then sees it.
func TestStateWrittenOver(t *testing.T) {
	r := rand.New(rand.NewSource(9))
	c := something(t, r, roomy())
	d := c.Copy()
	want := c.State()
	for _, x := range []*chip.Chip{c, d, c} {
		writeOver(x.State())
		holds(t, "the chip", c, want)
		holds(t, "its copy", d, want)
	}
	told := c.State()
	is(t, "Erase", c.Erase(0), api.OK)
	is(t, "Blow", c.Blow(1), api.OK)
	if !reflect.DeepEqual(told, want) {
		t.Error("what was told has changed")
	}
}

// writeOver changes all that can be reached of a state, spare room included.
func writeOver(s api.Chip) {
	for p := range s.Pages {
		page := s.Pages[p][:cap(s.Pages[p])]
		for k := range page {
			for i := range page[k] {
				page[k][i] ^= 0xa5
			}
		}
		s.Pages[p] = nil
	}
	s.Pages = append(s.Pages, nil)
	erases, blown := s.Erases[:cap(s.Erases)], s.Blown[:cap(s.Blown)]
	for i := range erases {
		erases[i] += 1000
	}
	for i := range blown {
		blown[i] = !blown[i]
	}
}

// P4.5: no two lists of one answer share any memory, spare room included: each is written over alone, and the others stay.
func TestStateListsApart(t *testing.T) {
	r := rand.New(rand.NewSource(10))
	c := something(t, r, roomy())
	for p := range 6 {
		s, want := c.State(), c.State()
		page := s.Pages[p][:cap(s.Pages[p])]
		for k := range page {
			page[k] = api.Cell{}
		}
		for q := range 6 {
			if q != p && !reflect.DeepEqual(s.Pages[q], want.Pages[q]) {
				t.Fatalf("page %d written over: page %d", p, q)
			}
		}
	}
}

// P4.5: what Lay was handed is neither changed nor kept: it may be written over behind the call, and is not written over by the chip.
func TestLaidWrittenOver(t *testing.T) {
	r := rand.New(rand.NewSource(11))
	x := roomy()
	s := something(t, r, x).State()
	want := something(t, rand.New(rand.NewSource(11)), x).State()
	for p := range s.Pages {
		s.Pages[p] = slices.Grow(s.Pages[p], 3)
		spare := s.Pages[p][len(s.Pages[p]):cap(s.Pages[p])]
		for k := range spare {
			spare[k] = filled(0x77)
		}
	}
	c := laid(t, x, s)
	is(t, "Program", c.Program(0, 2, api.Cell{}), api.OK)
	is(t, "Erase", c.Erase(1), api.OK)
	is(t, "Blow", c.Blow(1), api.OK)
	if !reflect.DeepEqual(s, want) {
		t.Fatal("what was handed in has changed")
	}
	for p := range s.Pages {
		for _, v := range s.Pages[p][len(s.Pages[p]):cap(s.Pages[p])] {
			if v != filled(0x77) {
				t.Fatal("spare room has changed")
			}
		}
	}
	now := c.State()
	writeOver(s)
	holds(t, "written over", c, now)
}

// P4.5: pages that are one and the same list in what Lay is handed are pages of their own on the chip.
func TestLaidOnePageTwice(t *testing.T) {
	s := newToy(small()).state()
	s.Pages[1] = s.Pages[0]
	c := laid(t, small(), s)
	is(t, "Program", c.Program(0, 0, api.Cell{}), api.OK)
	reads(t, c, 1, 0, filled(0xff))
	is(t, "Program", c.Program(1, 1, api.Cell{}), api.OK)
	reads(t, c, 0, 1, filled(0xff))
}

// P4.5: a mask is kept by its value, and is not changed, spare room included; of a copy's, too.
func TestMaskWrittenOver(t *testing.T) {
	for _, n := range []int{1, 2, 32, 128, 200} {
		room := bytes.Repeat([]byte{0x0f}, n+5)
		mask := room[:n]
		c := made(t, small())
		c.Cut(0, mask)
		d := c.Copy()
		for i := range room {
			room[i] = 0xff
		}
		for _, x := range []*chip.Chip{c, d} {
			is(t, "Program", x.Program(0, 0, api.Cell{}), api.ErrPower)
			x.Restore()
			reads(t, x, 0, 0, filled(0xf0))
		}
		if !bytes.Equal(room, bytes.Repeat([]byte{0xff}, n+5)) {
			t.Fatal("the mask has changed")
		}
	}
}

// P4.5: spare room behind a mask is none of its bytes.
func TestMaskSpareRoom(t *testing.T) {
	for n := range 3 {
		c := made(t, small())
		c.Cut(0, []byte{0x00, 0x00, 0xff, 0xff}[:n])
		is(t, "Program", c.Program(0, 0, api.Cell{}), api.ErrPower)
		c.Restore()
		reads(t, c, 0, 0, filled(0xff))
	}
}

// P4.5: a cell that was told, or laid, is the caller's own.
func TestCellsWrittenOver(t *testing.T) {
	c := made(t, small())
	x := filled(0x24)
	is(t, "Program", c.Program(0, 0, x), api.OK)
	x[0] = 0
	told, _ := c.Read(0, 0)
	told[1] = 0
	reads(t, c, 0, 0, filled(0x24))
}

// R4: two chips that are told the same answer the same.
func TestOneAnswer(t *testing.T) {
	for seed := range int64(20) {
		x := roomy()
		a, b := rand.New(rand.NewSource(seed)), rand.New(rand.NewSource(seed))
		one, two := both{made(t, x), newToy(x)}, both{made(t, x), newToy(x)}
		for range 100 {
			step(t, a, one)
			step(t, b, two)
		}
		holds(t, "told the same", one.c, two.c.State())
	}
}
