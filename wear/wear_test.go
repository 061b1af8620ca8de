package wear_test

import (
	"math"
	"math/rand"
	"slices"
	"sync"
	"testing"

	"portcullis/api"
	"portcullis/chip"
	"portcullis/wear"
)

// P20.1: the chapter's example, and the edges.
func TestBudget(t *testing.T) {
	nineSlots := chapter()
	nineSlots.Slots = 9
	once := chapter()
	once.Erases = 0
	often := chapter()
	often.Erases = api.MaxErases
	for i, x := range []struct {
		config api.Config
		cuts   int
		want   int64
	}{
		{chapter(), 0, 24},
		{chapter(), 1, 18},
		{chapter(), 2, 12},
		{chapter(), 3, 6},
		{chapter(), 4, 0},
		{chapter(), 5, 0},
		{chapter(), -1, 0},
		{chapter(), math.MinInt, 0},
		{chapter(), math.MinInt + 1, 0},
		{chapter(), math.MaxInt, 0},
		{chapter(), math.MaxInt - 1, 0},
		{nineSlots, 0, 0},
		{once, 0, 6},
		{once, 1, 0},
		{once, -1, 0},
		{often, 0, 393222},
		{often, 1, 393216},
		{often, 65535, 12},
		{often, 65536, 6},
		{often, 65537, 0},
		{often, -1, 0},
		{least(), 0, 4},
		{least(), 1, 0},
		{wide(), 0, 1016},
		{wide(), 1, 508},
		{wide(), 2, 0},
		{tight(), 0, 12},
		{tight(), 2, 4},
		{greatest(), 0, 32375278},
		{greatest(), api.MaxErases, 494},
		{greatest(), math.MinInt, 0},
		{greatest(), math.MaxInt, 0},
	} {
		if n := wear.Budget(x.config, x.cuts); n != x.want {
			t.Errorf("%d: Budget(%+v, %d): %d, want %d", i, x.config, x.cuts, n, x.want)
		}
	}
}

// P20.1: two fills of each page behind the cuts, and one more of both, have room for m lays each.
func TestBudgetOfAll(t *testing.T) {
	for slots := 1; slots <= api.MaxSlots; slots++ {
		for cells := slots + 3; cells <= api.MaxCells; cells += 1 + cells/9 {
			for _, erases := range []int{0, 1, 2, 77, api.MaxErases} {
				g := api.Config{Cells: cells, Slots: slots, Fuses: 1, Step: 1, Keys: 1, Erases: erases}
				for _, cuts := range []int{-1, 0, 1, 2, erases - 1, erases, erases + 1} {
					var want int64
					if 0 <= cuts && cuts <= erases {
						want = 2 * int64(erases-cuts+1) * int64(cells-slots-1)
					}
					if n := wear.Budget(g, cuts); n != want {
						t.Fatalf("Budget(%+v, %d): %d, want %d", g, cuts, n, want)
					}
				}
			}
		}
	}
}

// P20.1, P20.2: of configs that may not be nothing is told, by whatever reason.
func TestOfConfigsThatMayNotBe(t *testing.T) {
	for _, g := range impossible() {
		if chip.May(g) != api.ErrArg {
			t.Fatalf("%+v may be", g)
		}
		for _, cuts := range []int{math.MinInt, -1, 0, 1, 2, 3, 4, math.MaxInt} {
			if n := wear.Budget(g, cuts); n != 0 {
				t.Errorf("Budget(%+v, %d): %d", g, cuts, n)
			}
		}
		for kind := -2; kind < api.StepQuote+3; kind++ {
			if n := wear.Acts(g, kind); n != 0 {
				t.Errorf("Acts(%+v, %d): %d", g, kind, n)
			}
		}
	}
}

// P20.3: the chapter's examples.
func TestOfExamples(t *testing.T) {
	c := made(t, chapter())
	tells(t, "blank", c, wear.Report{Erases: []int{0, 0, 0, 0}, Turns: 8, Lays: 24})
	if e := mounted(t, c).Lay(0, 1); e != api.OK {
		t.Fatal(e)
	}
	tells(t, "behind one lay", c, wear.Report{Erases: []int{0, 0, 0, 0}, Free: 4, Turns: 7, Lays: 25})
	s := c.State()
	s.Erases[0], s.Erases[1], s.Pages[1][2] = 3, 2, torn()
	tells(t, "erased", holding(t, chapter(), s), wear.Report{Erases: []int{3, 2, 0, 0}, Apart: 1, Free: 4, Turns: 1, Lays: 7})
}

func tells(t *testing.T, what string, c *chip.Chip, want wear.Report) {
	t.Helper()
	if r := of(t, c); !alike(r, want) {
		t.Errorf("%s: %+v, want %+v", what, r, want)
	}
	if w := words(c); !alike(w, want) {
		t.Errorf("%s: by the words %+v, want %+v", what, w, want)
	}
}

// P20.3: which page is present, what is free in it, and what the target is.
func TestOfPages(t *testing.T) {
	g := chapter()
	h := func(n int64, rest ...api.Cell) []api.Cell { return append([]api.Cell{head(n)}, rest...) }
	v, z := value(0, 3), torn()
	for _, x := range []struct {
		what      string
		zero, one []api.Cell
		free      int
		turns     int64
	}{
		{"no page, both blank", nil, nil, 0, 8},
		{"no page, the target used", []api.Cell{blank(), v}, nil, 0, 6},
		{"no page, the other used", nil, []api.Cell{blank(), v}, 0, 7},
		{"no page, both used", []api.Cell{z}, []api.Cell{v}, 0, 6},
		{"no page, a head elsewhere", []api.Cell{blank(), head(1)}, []api.Cell{blank(), blank(), head(2)}, 0, 6},
		{"the page 0", h(1), nil, 5, 7},
		{"the page 0, a value", h(1, v), nil, 4, 7},
		{"the page 0, the target used", h(1, v), []api.Cell{blank(), z}, 4, 6},
		{"the page 0, the target's last cell used", h(1, v), full(g, 1, 0)[5:], 4, 6},
		{"the page 0, the target lesser", h(2, v), h(1), 4, 6},
		{"the page 0, both alike", h(2, v), h(2), 4, 6},
		{"the page 1", nil, h(1, v, v), 3, 7},
		{"the page 1, the target used", []api.Cell{blank(), v}, h(1, v, v), 3, 6},
		{"the page 1, the target torn", []api.Cell{z}, h(1, v, v), 3, 6},
		{"the page 1, the target lesser", h(8), h(9), 5, 6},
		{"blank ones between", h(1, blank(), blank(), v), nil, 2, 7},
		{"one blank behind", h(1, v, v, v, v), nil, 1, 7},
		{"the last cell alone", h(1, blank(), blank(), blank(), blank(), v), nil, 0, 7},
		{"the last cell torn", h(1, blank(), blank(), blank(), blank(), z), nil, 0, 7},
		{"torn ones", h(1, z, v, z), nil, 2, 7},
		{"zeros", h(1, api.Cell{}), nil, 4, 7},
		{"a great generation", h(high, v), h(high-1, v), 4, 6},
		{"the last generation", h(1<<62, v), h(1<<62-1, v), 4, 6},
		{"the last generation, the target blank", nil, h(1<<62, v), 4, 7},
	} {
		tells(t, x.what, filled(t, g, x.zero, x.one), wear.Report{Erases: []int{0, 0, 0, 0}, Free: x.free, Turns: x.turns, Lays: int64(x.free) + 3*x.turns})
	}
}

// P20.3: a above, at and below b, erases below, at and above those that a page lives through, in one page and in both.
func TestOfErases(t *testing.T) {
	g := chapter()
	used, some := []api.Cell{blank(), torn()}, full(g, 5, 2)
	for _, x := range []struct {
		zero, one []api.Cell
		erases    [2]int
		apart     int
		turns     int64
	}{
		{some, used, [2]int{0, 0}, 0, 6},
		{some, used, [2]int{3, 2}, 1, 1},
		{some, used, [2]int{2, 3}, 1, 0},
		{some, used, [2]int{3, 3}, 0, 0},
		{some, used, [2]int{3, 0}, 3, 1},
		{some, used, [2]int{0, 3}, 3, 0},
		{some, used, [2]int{1, 2}, 1, 2},
		{some, used, [2]int{2, 2}, 0, 2},
		{some, used, [2]int{2, 1}, 1, 3},
		{some, used, [2]int{2, 0}, 2, 3},
		{some, used, [2]int{4, 4}, 0, 0},
		{some, used, [2]int{4, 2}, 2, 1},
		{some, used, [2]int{2, 4}, 2, 0},
		{some, used, [2]int{math.MaxInt, 0}, math.MaxInt, 1},
		{some, used, [2]int{0, math.MaxInt}, math.MaxInt, 0},
		{some, used, [2]int{math.MaxInt, math.MaxInt}, 0, 0},
		{some, nil, [2]int{3, 3}, 0, 1},
		{some, nil, [2]int{3, 4}, 1, 1},
		{some, nil, [2]int{2, 3}, 1, 2},
		{some, nil, [2]int{2, 4}, 2, 2},
		{some, nil, [2]int{1, 4}, 3, 2},
		{some, nil, [2]int{4, math.MaxInt}, math.MaxInt - 4, 1},
		{used, some, [2]int{2, 3}, 1, 1},
		{used, some, [2]int{3, 2}, 1, 0},
		{used, some, [2]int{2, 2}, 0, 2},
		{used, some, [2]int{1, 2}, 1, 3},
		{nil, some, [2]int{3, 3}, 0, 1},
		{nil, some, [2]int{9, 0}, 9, 2},
		{nil, nil, [2]int{3, 3}, 0, 2},
		{nil, nil, [2]int{4, 5}, 1, 2},
		{nil, nil, [2]int{2, 3}, 1, 3},
		{nil, nil, [2]int{3, 2}, 1, 2},
		{used, nil, [2]int{3, 0}, 3, 0},
		{used, nil, [2]int{2, 3}, 1, 2},
		{nil, used, [2]int{3, 3}, 0, 1},
		{used, used, [2]int{3, 3}, 0, 0},
		{used, used, [2]int{2, 3}, 1, 1},
	} {
		c := filled(t, g, x.zero, x.one, x.erases[0], x.erases[1], 7, 1)
		want := wear.Report{Erases: []int{x.erases[0], x.erases[1], 7, 1}, Apart: x.apart, Turns: x.turns}
		if len(x.zero) == len(some) || len(x.one) == len(some) {
			want.Free = 2
		}
		want.Lays = int64(want.Free) + 3*x.turns
		tells(t, "erases", c, want)
	}
}

// P20.3: of a chip as great as there may be.
func TestOfTheGreatest(t *testing.T) {
	g := greatest()
	erases := make([]int, 2+2*api.MaxArea)
	c := made(t, g)
	tells(t, "blank", c, wear.Report{Erases: erases, Turns: 131074, Lays: 131074 * 247})
	if e := mounted(t, c).Lay(8, 1); e != api.OK {
		t.Fatal(e)
	}
	tells(t, "behind one lay", c, wear.Report{Erases: erases, Free: 254, Turns: 131073, Lays: 254 + 131073*247})
	s := c.State()
	for p := range s.Erases {
		s.Erases[p] = 1000 + p*p
	}
	s.Pages[1][255] = torn()
	tells(t, "erased", holding(t, g, s), wear.Report{Erases: s.Erases, Apart: 1, Free: 254, Turns: 2*64535 + 0, Lays: 254 + 2*64535*247})
}

// P20.3: behind as many lays as a page holds, one less and one more.
func TestOfBehindLays(t *testing.T) {
	g := chapter()
	c := made(t, g)
	l := mounted(t, c)
	want := []wear.Report{
		{Free: 0, Turns: 8},
		{Free: 4, Turns: 7},
		{Free: 3, Turns: 7},
		{Free: 2, Turns: 7},
		{Free: 1, Turns: 7},
		{Free: 0, Turns: 7},
		{Free: 3, Turns: 6}, // two slots' numbers and a head
		{Free: 2, Turns: 6},
		{Free: 1, Turns: 6},
		{Free: 0, Turns: 6},
		{Free: 3, Turns: 5},
	}
	for i, w := range want {
		w.Erases = []int{0, 0, 0, 0}
		if i == 10 {
			w.Erases[0], w.Apart = 1, 1
		}
		w.Lays = int64(w.Free) + 3*w.Turns
		tells(t, "behind lays", c, w)
		if e := l.Lay(i%2, int64(i+1)); e != api.OK {
			t.Fatal(e)
		}
	}
}

// P20.3: without power nothing is told, and nothing done; behind Restore all is.
func TestOfWithoutPower(t *testing.T) {
	c := made(t, chapter())
	for _, act := range []func() api.Errno{
		func() api.Errno { return c.Program(0, 1, api.Cell{}) },
		func() api.Errno { return c.Erase(1) },
		func() api.Errno { return c.Blow(0) },
	} {
		c.Cut(0, []byte{0xff})
		if e := act(); e != api.ErrPower {
			t.Fatal(e)
		}
		acts, holds := c.Acts(), c.State()
		r, e := wear.Of(c)
		if e != api.ErrPower || r.Erases != nil || !alike(r, wear.Report{}) {
			t.Errorf("without power: %+v, %v", r, e)
		}
		if c.Acts() != acts || !c.Out() || !same(c.State(), holds) {
			t.Errorf("Of has changed the chip")
		}
		c.Restore()
		tells(t, "restored", c, words(c))
	}
	tells(t, "in the end", c, wear.Report{Erases: []int{0, 1, 0, 0}, Apart: 1, Turns: 6, Lays: 18})
}

// P20.3: a cut that waits goes on waiting, for the same act.
func TestOfLeavesTheCut(t *testing.T) {
	c := made(t, chapter())
	c.Cut(1, []byte{0x01})
	for range 3 {
		of(t, c)
	}
	if e := c.Blow(0); e != api.OK {
		t.Fatal(e)
	}
	of(t, c)
	if e := c.Blow(1); e != api.ErrPower || c.Acts() != 2 {
		t.Errorf("the second act: %v, %d acts", e, c.Acts())
	}
}

// P20.3: of whatever lies in the pages.
func TestOfWhatever(t *testing.T) {
	r := rand.New(rand.NewSource(20))
	seen := map[[3]bool]int{}
	for range 400 {
		for _, g := range makes() {
			c := anyChip(t, r, g)
			got, want := of(t, c), words(c)
			if !alike(got, want) {
				t.Fatalf("%+v: %+v: %+v, want %+v", g, c.State(), got, want)
			}
			seen[[3]bool{present(c.State()) == 1, want.Turns%2 == 0, want.Turns > 2}]++
		}
	}
	if len(seen) != 8 {
		t.Errorf("just these kinds of chips came: %v", seen)
	}
}

// R3: Erases are new each time, spare room too, and stay their caller's own.
func TestOfErasesAreNew(t *testing.T) {
	c := filled(t, chapter(), nil, nil, 1, 2, 3, 0)
	first, second := of(t, c), of(t, c)
	want := slices.Clone(first.Erases)
	if len(want) != 4 {
		t.Fatalf("Erases: %v", want)
	}
	for _, l := range [][]int{first.Erases[:cap(first.Erases)], second.Erases[:cap(second.Erases)]} {
		for i := range l {
			l[i] = 100 + i
		}
	}
	if r := of(t, c); !slices.Equal(r.Erases, want) || !slices.Equal(c.State().Erases, want) {
		t.Errorf("behind a write: %v, %v", r.Erases, c.State().Erases)
	}
	kept := of(t, c)
	if e := c.Erase(0); e != api.OK {
		t.Fatal(e)
	}
	if !slices.Equal(kept.Erases, want) {
		t.Errorf("behind an erase an answer from before tells %v", kept.Erases)
	}
	if &first.Erases[0] == &second.Erases[0] {
		t.Error("two answers share their memory")
	}
}

// R4: the same call has the same answer, again, on a chip that holds the same, and two at one time.
func TestSameAnswer(t *testing.T) {
	r := rand.New(rand.NewSource(4))
	for _, g := range makes() {
		c := anyChip(t, r, g)
		want, budget, acts := of(t, c), wear.Budget(g, 0), wear.Acts(g, api.StepStage)
		twin := holding(t, g, c.State())
		var group sync.WaitGroup
		for i := range 8 {
			group.Go(func() {
				from := []*chip.Chip{c, c.Copy(), twin}[i%3]
				if got, e := wear.Of(from); e != api.OK || !alike(got, want) {
					t.Errorf("%+v, %v, want %+v", got, e, want)
				}
				if wear.Budget(g, 0) != budget || wear.Acts(g, api.StepStage) != acts {
					t.Error("another answer")
				}
			})
		}
		group.Wait()
	}
}
