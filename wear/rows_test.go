package wear_test

import (
	"math/rand"
	"slices"
	"testing"

	"portcullis/api"
	"portcullis/chip"
	"portcullis/log"
	"portcullis/wear"
)

// masks are of zeros, of ones, and mixed ones.
func masks() [][]byte {
	return [][]byte{nil, {0xff}, {0x0f}, {0xaa, 0x00, 0xff}, {0x01}, {0xff, 0xff, 0xff, 0xff, 0xff, 0xff, 0xff, 0x7f}}
}

// row is a row of lays, cuts and mounts over a chip that was blank at first.
type row struct {
	chip *chip.Chip
	log  *log.Log
	cuts int
	laid int64 // lays that were answered OK
	worn bool  // was one refused for wear?
}

func begun(t *testing.T, g api.Config) *row {
	t.Helper()
	c := made(t, g)
	return &row{chip: c, log: mounted(t, c)}
}

func (r *row) copied(t *testing.T) *row {
	t.Helper()
	other := *r
	other.chip = r.chip.Copy()
	other.log = mounted(t, other.chip)
	return &other
}

// lay lays the next number for a slot, and holds what comes of it against P20.4 and P20.5.
func (r *row) lay(t *testing.T, slot int) {
	t.Helper()
	n, e := r.log.Number(slot)
	if e != api.OK {
		t.Fatal(e)
	}
	g := r.chip.Config()
	switch e := r.log.Lay(slot, n+1); e {
	case api.OK:
		r.laid++
	case api.ErrWorn:
		r.worn = true
		if r.laid < wear.Budget(g, r.cuts) {
			t.Fatalf("%+v: refused behind %d lays and %d cuts, the budget %d", g, r.laid, r.cuts, wear.Budget(g, r.cuts))
		}
	case api.ErrPower:
		r.cuts++
		r.chip.Restore()
		r.log = mounted(t, r.chip)
	default:
		t.Fatal(e)
	}
	r.even(t)
}

// even holds a chip against P20.5.
func (r *row) even(t *testing.T) {
	t.Helper()
	g, tells := r.chip.Config(), of(t, r.chip)
	erases := r.chip.State().Erases
	if !slices.Equal(tells.Erases, erases) || slices.Max(erases) > g.Erases {
		t.Fatalf("%+v: erased %v times, told %v", g, erases, tells.Erases)
	}
	apart := max(erases[0]-erases[1], erases[1]-erases[0])
	if apart != tells.Apart || apart > 1+r.cuts {
		t.Fatalf("%+v: apart by %d behind %d cuts, told %d", g, apart, r.cuts, tells.Apart)
	}
	if left := wear.Budget(g, r.cuts) - r.laid; tells.Lays < left {
		t.Fatalf("%+v: %d lays are left behind %d and %d cuts, the budget leaves %d", g, tells.Lays, r.laid, r.cuts, left)
	}
}

// P20.4, P20.5: rows with cuts at any act, with any mask, and mounts, up to the end of the chip.
func TestRows(t *testing.T) {
	r := rand.New(rand.NewSource(204))
	worn := 0
	for _, g := range makes() {
		for i := range 120 {
			w := begun(t, g)
			for !w.worn && w.cuts < g.Erases+3 {
				if r.Intn(3+5*(i%7)) == 0 {
					w.chip.Cut(r.Intn(g.Slots+5), masks()[r.Intn(len(masks()))])
				}
				if r.Intn(9) == 0 {
					w.log = mounted(t, w.chip)
				}
				w.lay(t, r.Intn(g.Slots+1))
			}
			if w.worn && w.cuts > 0 {
				worn++
			}
		}
	}
	if worn < 200 {
		t.Errorf("just %d rows with cuts wore a chip out", worn)
	}
}

// P20.4, P20.5: every row of small chips: each lay is cut at none of its acts, or at each, with each mask.
func TestEveryRow(t *testing.T) {
	for _, g := range []api.Config{
		{Cells: 4, Slots: 1, Fuses: 1, Step: 1, Keys: 1, Erases: 1},
		{Cells: 4, Slots: 1, Fuses: 1, Step: 1, Keys: 1, Erases: 2},
		{Cells: 5, Slots: 1, Fuses: 1, Step: 1, Keys: 1, Erases: 1},
		{Cells: 5, Slots: 2, Fuses: 1, Step: 1, Keys: 1, Erases: 2},
	} {
		rows, ends := []*row{begun(t, g)}, 0
		for len(rows) > 0 {
			seen := map[string]bool{}
			var next []*row
			for _, w := range rows {
				for _, x := range branches(t, w) {
					if x.worn {
						ends++
					} else if key := looks(x); !seen[key] {
						seen[key] = true
						next = append(next, x)
					}
				}
			}
			rows = next
		}
		if ends < 20 {
			t.Errorf("%+v: just %d rows came to an end", g, ends)
		}
	}
}

// branches are what may come of a row by one lay more.
func branches(t *testing.T, w *row) []*row {
	t.Helper()
	g := w.chip.Config()
	slot := int(w.laid) % (g.Slots + 1)
	whole := w.copied(t)
	before := whole.chip.Acts()
	whole.lay(t, slot)
	l := []*row{whole}
	if w.cuts > g.Erases { // the budget is spent
		return l
	}
	for act := range whole.chip.Acts() - before {
		for _, mask := range masks()[:3] {
			x := w.copied(t)
			x.chip.Cut(act, mask)
			x.lay(t, slot)
			l = append(l, x)
		}
	}
	return l
}

// looks tells rows apart by all that those which go on from them hang on.
func looks(w *row) string {
	s := w.chip.State()
	b := []byte{byte(w.cuts), byte(w.laid), byte(s.Erases[0]), byte(s.Erases[1])}
	for _, page := range s.Pages[:2] {
		for _, x := range page {
			b = append(b, x[:]...)
		}
	}
	return string(b)
}

// P20.4: cuts that cost the most, at the last act of each turn, as many as the budget bears: there are rows that end just with it.
func TestCutTurns(t *testing.T) {
	for _, g := range makes() {
		for cuts := 0; cuts <= g.Erases; cuts++ {
			for _, mask := range masks() {
				w := begun(t, g)
				for i := 0; !w.worn; i++ {
					if w.cuts < cuts && w.log.Free() == 0 {
						w.chip.Cut(actsOfLay(t, w, i%(g.Slots+1))-1, mask)
					}
					w.lay(t, i%(g.Slots+1))
				}
				if w.laid < wear.Budget(g, cuts) {
					t.Fatalf("%+v: %d lays with %d cuts, the budget %d", g, w.laid, cuts, wear.Budget(g, cuts))
				}
			}
		}
	}
}

func actsOfLay(t *testing.T, w *row, slot int) int {
	t.Helper()
	x := w.copied(t)
	before := x.chip.Acts()
	x.lay(t, slot)
	return x.chip.Acts() - before
}

// P20.4: without cuts, and with all slots laid in turn, a chip ends as soon as the budget lets it, but for the cells that its first turn leaves free.
func TestBudgetIsNearlyAll(t *testing.T) {
	for _, g := range makes() {
		w := begun(t, g)
		for i := 0; !w.worn; i++ {
			w.lay(t, i%(g.Slots+1))
		}
		if beyond := w.laid - wear.Budget(g, 0); beyond < 0 || beyond > int64(g.Slots+1) {
			t.Errorf("%+v: %d lays, %d beyond the budget", g, w.laid, beyond)
		}
	}
}

// wornOut lays numbers till one is refused for wear; it holds each lay against Of's report, and the whole of them against P20.6.
func wornOut(t *testing.T, c *chip.Chip, slot func(i int) int) {
	t.Helper()
	l, first := mounted(t, c), of(t, c)
	turns, laid, told := int64(0), int64(0), first
	for i := 0; ; i++ {
		before := l.Generation()
		s := slot(i)
		n, _ := l.Number(s)
		e := l.Lay(s, n+1)
		if e == api.ErrWorn {
			break
		}
		if e != api.OK {
			t.Fatal(e)
		}
		laid++
		turned := l.Generation() != before
		if turned {
			turns++
		}
		told = follows(t, told, of(t, c), turned)
	}
	if turns != first.Turns || laid < first.Lays {
		t.Fatalf("%+v: %d turns and %d lays, told %+v", c.Config(), turns, laid, first)
	}
	if told.Turns != 0 || told.Free != 0 || told.Lays != 0 {
		t.Fatalf("%+v: refused, but %+v", c.Config(), told)
	}
}

// follows holds a report against the one ahead of a lay.
func follows(t *testing.T, before, after wear.Report, turned bool) wear.Report {
	t.Helper()
	switch {
	case turned && (before.Free != 0 || after.Turns != before.Turns-1):
		t.Fatalf("a turn: %+v, then %+v", before, after)
	case !turned && (after.Free != before.Free-1 || after.Turns != before.Turns):
		t.Fatalf("a lay: %+v, then %+v", before, after)
	case after.Lays < before.Lays-1:
		t.Fatalf("a lay cost more than one: %+v, then %+v", before, after)
	}
	return after
}

// rowsOfSlots are ways to choose the slots of lays.
func rowsOfSlots(r *rand.Rand, g api.Config) []func(int) int {
	return []func(int) int{
		func(int) int { return 0 },
		func(int) int { return g.Slots },
		func(i int) int { return i % (g.Slots + 1) },
		func(int) int { return r.Intn(g.Slots + 1) },
	}
}

// P20.6: blank chips, and chips with any generation of which it speaks.
func TestTurns(t *testing.T) {
	r := rand.New(rand.NewSource(61))
	for _, g := range makes() {
		for _, slot := range rowsOfSlots(r, g) {
			wornOut(t, made(t, g), slot)
			for _, generation := range []int64{1, 2, 7, high - 1, high} {
				for free := range g.Cells - 1 {
					wornOut(t, filled(t, g, full(g, generation, free), nil, 0, 1), slot)
					wornOut(t, filled(t, g, full(g, generation-1, 0), full(g, generation, free), 1, 1), slot)
				}
			}
		}
	}
}

// P20.6: chips that hold whatever, erased as often as they may be, and less, and oftener.
func TestTurnsOfWhatever(t *testing.T) {
	r := rand.New(rand.NewSource(66))
	for range 40 {
		for _, g := range makes() {
			c := anyChip(t, r, g)
			for _, slot := range rowsOfSlots(r, g) {
				wornOut(t, c.Copy(), slot)
			}
		}
	}
}

// P20.6: chips behind rows with cuts.
func TestTurnsBehindCuts(t *testing.T) {
	r := rand.New(rand.NewSource(67))
	for _, g := range makes() {
		for range 30 {
			w := begun(t, g)
			for range r.Intn(25) {
				if r.Intn(3) == 0 {
					w.chip.Cut(r.Intn(g.Slots+3), masks()[r.Intn(len(masks()))])
				}
				w.lay(t, r.Intn(g.Slots+1))
			}
			w.chip.Cut(-1, nil)
			wornOut(t, w.chip, rowsOfSlots(r, g)[r.Intn(4)])
		}
	}
}

// P20.6: a chip whose pages live through many erases.
func TestManyTurns(t *testing.T) {
	wornOut(t, made(t, api.Config{Cells: 5, Slots: 1, Fuses: 1, Step: 1, Keys: 1, Erases: 2000}), func(i int) int { return i % 2 })
}
