package wear_test

import (
	"bytes"
	"math/rand"
	"slices"
	"testing"

	"portcullis/api"
	"portcullis/cell"
	"portcullis/chip"
	"portcullis/log"
	"portcullis/wear"
)

// high is the greatest generation of which P20.6 speaks.
const high = int64(1)<<61 - 1

// chapter is the config of the chapter's examples.
func chapter() api.Config {
	return api.Config{Cells: 6, Slots: 2, Fuses: 4, Step: 10, Keys: 1, Erases: 3, Area: 1}
}

func least() api.Config {
	return api.Config{Cells: 4, Slots: 1, Fuses: 1, Step: 1, Keys: 1}
}

func greatest() api.Config {
	return api.Config{Cells: api.MaxCells, Slots: api.MaxSlots, Fuses: api.MaxFuses, Step: api.MaxStep, Keys: api.MaxKeys, Erases: api.MaxErases, Area: api.MaxArea}
}

// wide has the greatest m that there may be.
func wide() api.Config {
	return api.Config{Cells: api.MaxCells, Slots: 1, Fuses: 1, Step: 1, Keys: 1, Erases: 1}
}

// tight has as many slots, and as few cells for them, as there may be.
func tight() api.Config {
	return api.Config{Cells: api.MaxSlots + 3, Slots: api.MaxSlots, Fuses: 2, Step: 1, Keys: 1, Erases: 2, Area: 2}
}

// makes are configs of many makes, which wear out soon.
func makes() []api.Config {
	l := []api.Config{chapter(), least(), tight()}
	for _, erases := range []int{1, 2, 4} {
		for _, cells := range []int{4, 5, 8} {
			l = append(l, api.Config{Cells: cells, Slots: 1, Fuses: 2, Step: 3, Keys: 1, Erases: erases})
		}
	}
	return append(l,
		api.Config{Cells: 9, Slots: 3, Fuses: 1, Step: 1, Keys: 2, Erases: 2, Area: 3},
		api.Config{Cells: 12, Slots: 5, Fuses: 1, Step: 1, Keys: 2, Erases: 3},
	)
}

// impossible are configs that may not be, each for one reason alone, and some for all of them.
func impossible() []api.Config {
	var l []api.Config
	for _, g := range []api.Config{chapter(), greatest()} {
		for _, n := range []int{-1 << 63, -1 << 32, -1, 1<<63 - 1} {
			l = append(l, with(g, n)...)
		}
		l = append(l, zeros(g)...)
		l = append(l, beyond(g)...)
		short := g
		short.Cells = g.Slots + 2
		l = append(l, short)
	}
	return append(l, api.Config{}, api.Config{Cells: -1, Slots: -1, Fuses: -1, Step: -1, Keys: -1, Erases: -1, Area: -1})
}

// with are configs of which one field is n.
func with(g api.Config, n int) []api.Config {
	l := slices.Repeat([]api.Config{g}, 7)
	l[0].Cells, l[1].Slots, l[2].Fuses, l[3].Step, l[4].Keys, l[5].Erases, l[6].Area = n, n, n, n, n, n, n
	return l
}

func zeros(g api.Config) []api.Config { return with(g, 0)[:5] }

func beyond(g api.Config) []api.Config {
	l := slices.Repeat([]api.Config{g}, 7)
	l[0].Cells, l[1].Slots, l[2].Fuses, l[3].Step = api.MaxCells+1, api.MaxSlots+1, api.MaxFuses+1, api.MaxStep+1
	l[4].Keys, l[5].Erases, l[6].Area = api.MaxKeys+1, api.MaxErases+1, api.MaxArea+1
	return l
}

func made(t *testing.T, g api.Config) *chip.Chip {
	t.Helper()
	c, e := chip.New(g)
	if e != api.OK {
		t.Fatalf("New(%+v): %v", g, e)
	}
	return c
}

func mounted(t *testing.T, c *chip.Chip) *log.Log {
	t.Helper()
	l, e := log.Mount(c)
	if e != api.OK {
		t.Fatalf("Mount: %v", e)
	}
	return l
}

// filled is a chip that holds these cells in its pages 0 and 1, which were erased so often.
func filled(t *testing.T, g api.Config, zero, one []api.Cell, erases ...int) *chip.Chip {
	t.Helper()
	s := made(t, g).State()
	copy(s.Pages[0], zero)
	copy(s.Pages[1], one)
	copy(s.Erases, erases)
	return holding(t, g, s)
}

func holding(t *testing.T, g api.Config, s api.Chip) *chip.Chip {
	t.Helper()
	c, e := chip.Lay(g, s)
	if e != api.OK {
		t.Fatalf("Lay(%+v): %v", g, e)
	}
	return c
}

func blank() api.Cell { return api.Cell(bytes.Repeat([]byte{0xff}, 32)) }

func head(n int64) api.Cell {
	c, _ := cell.Head(n)
	return c
}

func value(slot int, n int64) api.Cell {
	c, _ := cell.Value(slot, n)
	return c
}

// torn is neither blank nor a right record: a bit of a record is still to come.
func torn() api.Cell {
	c := value(0, 9)
	c[30] |= 1
	c[14] |= 1
	return c
}

// full is a page with that head, so many of whose last cells are blank.
func full(g api.Config, generation int64, free int) []api.Cell {
	l := []api.Cell{head(generation)}
	for len(l) < g.Cells-free {
		l = append(l, value(len(l)%(g.Slots+1), int64(len(l))))
	}
	return l
}

func same(a, b api.Chip) bool {
	return slices.EqualFunc(a.Pages, b.Pages, slices.Equal) && slices.Equal(a.Erases, b.Erases) && slices.Equal(a.Blown, b.Blown)
}

func alike(a, b wear.Report) bool {
	return slices.Equal(a.Erases, b.Erases) && a.Apart == b.Apart && a.Free == b.Free && a.Turns == b.Turns && a.Lays == b.Lays
}

// of is Of, which must be answered, do no act, and leave all as it was.
func of(t *testing.T, c *chip.Chip) wear.Report {
	t.Helper()
	acts, holds := c.Acts(), c.State()
	r, e := wear.Of(c)
	if e != api.OK {
		t.Fatalf("Of: %v", e)
	}
	if c.Acts() != acts || c.Out() || !same(c.State(), holds) {
		t.Fatalf("Of has changed the chip")
	}
	return r
}

// words is what Of is to answer, by the document's words, over a chip with power. The turns are made here one behind the other, with numbers in the place of pages.
func words(c *chip.Chip) wear.Report {
	g, s := c.Config(), c.State()
	r := wear.Report{Erases: slices.Clone(s.Erases)}
	if r.Apart = s.Erases[0] - s.Erases[1]; r.Apart < 0 {
		r.Apart = -r.Apart
	}
	present := present(s)
	if present >= 0 {
		for _, x := range slices.Backward(s.Pages[present]) {
			if x != blank() {
				break
			}
			r.Free++
		}
	}
	used := [2]bool{isUsed(s.Pages[0]), isUsed(s.Pages[1])}
	erases := [2]int{s.Erases[0], s.Erases[1]}
	for target := max(0, 1-present) % 2; ; target = 1 - target {
		if used[target] && erases[target] >= g.Erases {
			break
		}
		if used[target] {
			erases[target]++
		}
		used[target] = true
		r.Turns++
	}
	r.Lays = r.Turns*int64(g.Cells-g.Slots-1) + int64(r.Free)
	return r
}

func isUsed(page []api.Cell) bool {
	return slices.ContainsFunc(page, func(x api.Cell) bool { return x != blank() })
}

// present is the page that is present; -1, if none is.
func present(s api.Chip) int {
	var generation [2]int64
	for p := range generation {
		if r := cell.Read(s.Pages[p][0]); r.Kind == api.CellHead {
			generation[p] = r.Number
		}
	}
	switch {
	case generation == [2]int64{}:
		return -1
	case generation[1] > generation[0]:
		return 1
	}
	return 0
}

// anyCell is one of all that may lie in a page.
func anyCell(r *rand.Rand, g api.Config) api.Cell {
	switch r.Intn(8) {
	case 0:
		return head(1 + r.Int63n(5))
	case 1:
		return torn()
	case 2:
		return api.Cell{}
	case 3:
		return value(r.Intn(api.MaxSlots+1), 1+r.Int63n(1000))
	case 4, 5:
		return value(r.Intn(g.Slots+1), 1+r.Int63n(1000))
	}
	return blank()
}

// anyPage has a right head, or none; its other cells are whatever.
func anyPage(r *rand.Rand, g api.Config) []api.Cell {
	l := slices.Repeat([]api.Cell{blank()}, g.Cells)
	if r.Intn(4) == 0 {
		return l
	}
	for i := range r.Intn(g.Cells) + 1 {
		l[i] = anyCell(r, g)
	}
	switch r.Intn(6) {
	case 0:
		l[0] = anyCell(r, g)
	case 1, 2:
		l[0] = head(high - r.Int63n(3))
	default:
		l[0] = head(1 + r.Int63n(4))
	}
	return l
}

// anyChip holds whatever somebody has laid there, and was erased as often as its config says, and less, and oftener.
func anyChip(t *testing.T, r *rand.Rand, g api.Config) *chip.Chip {
	t.Helper()
	s := made(t, g).State()
	for p := range s.Pages {
		s.Pages[p] = anyPage(r, g)
		s.Erases[p] = max(0, g.Erases+1-r.Intn(g.Erases+3))
	}
	return holding(t, g, s)
}
