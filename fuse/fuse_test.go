package fuse_test

import (
	"math"
	"math/rand"
	"reflect"
	"slices"
	"sync"
	"testing"

	"portcullis/api"
	"portcullis/chip"
	"portcullis/fuse"
)

// small is the config of the chapter's examples: fuses 0 to 2, 3 to 5; keys: 6, 7.
func small() api.Config {
	return api.Config{Cells: 5, Slots: 2, Fuses: 3, Step: 1, Keys: 2, Erases: 1}
}

// unlike has no two numbers alike of those that tell where a fuse lies.
func unlike() api.Config {
	return api.Config{Cells: 6, Slots: 3, Fuses: 4, Step: 7, Keys: 5, Erases: 3, Area: 1}
}

func least() api.Config {
	return api.Config{Cells: 4, Slots: 1, Fuses: 1, Step: 1, Keys: 1}
}

func greatest() api.Config {
	return api.Config{Cells: 11, Slots: api.MaxSlots, Fuses: api.MaxFuses, Step: api.MaxStep, Keys: api.MaxKeys, Erases: api.MaxErases}
}

func configs() []api.Config {
	return []api.Config{least(), small(), unlike(), greatest()}
}

// masks are rows of bytes, and whether a fuse's bit is among those that change.
func masks() []struct {
	bytes   []byte
	changes bool
} {
	return []struct {
		bytes   []byte
		changes bool
	}{
		{nil, false}, {[]byte{0x00}, false}, {[]byte{0xfe}, false}, {[]byte{0x02, 0xff}, false},
		{[]byte{0x01}, true}, {[]byte{0xff}, true}, {[]byte{0x55, 0x00}, true},
	}
}

func made(t *testing.T, g api.Config) *chip.Chip {
	t.Helper()
	c, e := chip.New(g)
	if e != api.OK {
		t.Fatalf("New(%+v): %v", g, e)
	}
	return c
}

func laid(t *testing.T, g api.Config, s api.Chip) *chip.Chip {
	t.Helper()
	c, e := chip.Lay(g, s)
	if e != api.OK {
		t.Fatalf("Lay(%+v): %v", g, e)
	}
	return c
}

// written is a state of which every cell holds something, each page was erased, and any fuses are blown.
func written(r *rand.Rand, g api.Config) api.Chip {
	s := api.Chip{Pages: make([][]api.Cell, 2+2*g.Area), Erases: make([]int, 2+2*g.Area), Blown: make([]bool, g.Slots*g.Fuses+g.Keys)}
	for p := range s.Pages {
		s.Pages[p] = make([]api.Cell, g.Cells)
		for i := range s.Pages[p] {
			r.Read(s.Pages[p][i][:])
		}
		s.Erases[p] = r.Intn(9)
	}
	for i := range s.Blown {
		s.Blown[i] = r.Intn(2) == 0
	}
	return s
}

// with is a state of the same, but for a row of fuses, whose blown ones are the bits of a number.
func with(s api.Chip, first, n, bits int) api.Chip {
	s.Blown = slices.Clone(s.Blown)
	for i := range n {
		s.Blown[first+i] = bits>>i&1 == 1
	}
	return s
}

// blown counts by the chapter's words.
func blown(s api.Chip, g api.Config, slot int) int {
	n := 0
	for _, is := range s.Blown[slot*g.Fuses : (slot+1)*g.Fuses] {
		if is {
			n++
		}
	}
	return n
}

// toBlow lists which fuses a Raise blows, by the chapter's words.
func toBlow(s api.Chip, g api.Config, slot, n int) []int {
	var fuses []int
	for i := slot * g.Fuses; i < (slot+1)*g.Fuses && blown(s, g, slot)+len(fuses) < n; i++ {
		if !s.Blown[i] {
			fuses = append(fuses, i)
		}
	}
	return fuses
}

// also is a state in which these fuses are blown, too.
func also(s api.Chip, fuses ...int) api.Chip {
	s.Blown = slices.Clone(s.Blown)
	for _, i := range fuses {
		s.Blown[i] = true
	}
	return s
}

func answers(t *testing.T, what string, got, want api.Errno) {
	t.Helper()
	if got != want {
		t.Fatalf("%s: %v, want %v", what, got, want)
	}
}

func counts(t *testing.T, c *chip.Chip, slot, want int) {
	t.Helper()
	if n, e := fuse.Count(c, slot); n != want || e != api.OK {
		t.Fatalf("Count(%d): %d %v, want %d", slot, n, e, want)
	}
}

func revoked(t *testing.T, c *chip.Chip, key int, want bool) {
	t.Helper()
	if is, e := fuse.Revoked(c, key); is != want || e != api.OK {
		t.Fatalf("Revoked(%d): %v %v, want %v", key, is, e, want)
	}
}

// did holds a chip's acts and all that it holds against what is wanted.
func did(t *testing.T, what string, c *chip.Chip, acts int, want api.Chip) {
	t.Helper()
	if c.Acts() != acts {
		t.Fatalf("%s: %d acts, want %d", what, c.Acts(), acts)
	}
	if got := c.State(); !reflect.DeepEqual(got, want) {
		t.Fatalf("%s: the chip holds other things than it should: fuses %v, want %v", what, got.Blown, want.Blown)
	}
}

// refused makes sure that all calls about what isn't there answer an error and zero values, and do nothing.
func refused(t *testing.T, c *chip.Chip, slot, key int, want api.Errno) {
	t.Helper()
	acts, held := c.Acts(), c.State()
	for _, n := range []int{-1, 0, 1, c.Config().Fuses, c.Config().Fuses + 1} {
		if e := fuse.Raise(c, slot, n); e != want {
			t.Fatalf("Raise(%d, %d): %v, want %v", slot, n, e, want)
		}
	}
	if n, e := fuse.Count(c, slot); n != 0 || e != want {
		t.Fatalf("Count(%d): %d %v, want 0 %v", slot, n, e, want)
	}
	if is, e := fuse.Revoked(c, key); is || e != want {
		t.Fatalf("Revoked(%d): %v %v, want no %v", key, is, e, want)
	}
	if e := fuse.Revoke(c, key); e != want {
		t.Fatalf("Revoke(%d): %v, want %v", key, e, want)
	}
	did(t, "refused", c, acts, held)
}

// P7.1: the chapter's examples.
func TestExamples(t *testing.T) {
	c := made(t, small())
	s := c.State()
	counts(t, c, 0, 0)
	answers(t, "Raise(0, 2)", fuse.Raise(c, 0, 2), api.OK)
	did(t, "Raise(0, 2)", c, 2, also(s, 0, 1))
	counts(t, c, 0, 2)
	answers(t, "Raise(0, 1)", fuse.Raise(c, 0, 1), api.OK)
	answers(t, "Raise(0, 4)", fuse.Raise(c, 0, 4), api.ErrRange)
	answers(t, "Raise(2, 1)", fuse.Raise(c, 2, 1), api.ErrRange)
	if n, e := fuse.Count(c, -1); n != 0 || e != api.ErrRange {
		t.Fatalf("Count(-1): %d %v", n, e)
	}
	did(t, "refused or reached", c, 2, also(s, 0, 1))

	answers(t, "Blow(4)", c.Blow(4), api.OK)
	counts(t, c, 1, 1)
	answers(t, "Raise(1, 2)", fuse.Raise(c, 1, 2), api.OK)
	did(t, "Raise(1, 2)", c, 4, also(s, 0, 1, 3, 4))

	answers(t, "Revoke(1)", fuse.Revoke(c, 1), api.OK)
	revoked(t, c, 1, true)
	answers(t, "Revoke(1)", fuse.Revoke(c, 1), api.OK)
	answers(t, "Revoke(2)", fuse.Revoke(c, 2), api.ErrRange)
	revoked(t, c, 0, false)
	did(t, "Revoke(1)", c, 5, also(s, 0, 1, 3, 4, 7))
}

// P7.1: slots, keys and numbers at their edges and beyond, and such as wrap round to a fuse that is there.
func TestEdges(t *testing.T) {
	r := rand.New(rand.NewSource(71))
	for _, g := range configs() {
		c := laid(t, g, with(written(r, g), 0, g.Slots*g.Fuses+g.Keys, 0))
		for _, far := range []int{-1, math.MinInt, math.MaxInt, -1 << 62, 1 << 62, 1 << 58, 1 << 32, math.MaxInt - g.Slots*g.Fuses + 1} {
			refused(t, c, far, far, api.ErrRange)
		}
		refused(t, c, g.Slots, g.Keys, api.ErrRange)
		refused(t, c, g.Slots+1, g.Keys+1, api.ErrRange)
		refused(t, c, -g.Slots, -g.Keys, api.ErrRange)
		for _, slot := range []int{0, g.Slots - 1} {
			held, acts := c.State(), c.Acts()
			for _, n := range []int{-1, g.Fuses + 1, math.MinInt, math.MaxInt, -g.Fuses, 2 * g.Fuses} {
				answers(t, "Raise beyond the row", fuse.Raise(c, slot, n), api.ErrRange)
			}
			answers(t, "Raise to 0", fuse.Raise(c, slot, 0), api.OK)
			did(t, "Raise to 0", c, acts, held)
			answers(t, "Raise to Fuses", fuse.Raise(c, slot, g.Fuses), api.OK)
			counts(t, c, slot, g.Fuses)
			answers(t, "Raise to Fuses + 1", fuse.Raise(c, slot, g.Fuses+1), api.ErrRange)
			did(t, "Raise to Fuses", c, acts+len(toBlow(held, g, slot, g.Fuses)), also(held, toBlow(held, g, slot, g.Fuses)...))
		}
		for _, key := range []int{0, g.Keys - 1} {
			held, acts := c.State(), c.Acts()
			i := g.Slots*g.Fuses + key
			want := acts
			if !held.Blown[i] {
				want++
			}
			answers(t, "Revoke", fuse.Revoke(c, key), api.OK)
			revoked(t, c, key, true)
			answers(t, "Revoke", fuse.Revoke(c, key), api.OK)
			did(t, "Revoke", c, want, also(held, i))
		}
	}
}

// P7.1, P7.3: whichever fuses of a row are blown, and whatever is blown beside it, each Raise blows the least ones that are missing, and nothing else changes.
func TestRaise(t *testing.T) {
	r := rand.New(rand.NewSource(72))
	g := unlike()
	for slot := range g.Slots {
		for bits := range 1 << g.Fuses {
			for n := 0; n <= g.Fuses; n++ {
				s := with(written(r, g), slot*g.Fuses, g.Fuses, bits)
				c := laid(t, g, s)
				counts(t, c, slot, blown(s, g, slot))
				did(t, "Count", c, 0, s)
				fuses := toBlow(s, g, slot, n)
				answers(t, "Raise", fuse.Raise(c, slot, n), api.OK)
				did(t, "Raise", c, len(fuses), also(s, fuses...))
				counts(t, c, slot, max(n, blown(s, g, slot)))
			}
		}
	}
}

// P7.1, P7.3: a key's fuse is the one behind all rows that has its number.
func TestRevoke(t *testing.T) {
	r := rand.New(rand.NewSource(73))
	for _, g := range configs() {
		s := with(written(r, g), g.Slots*g.Fuses, g.Keys, 0)
		c := laid(t, g, s)
		for k := range g.Keys {
			key := (k*7 + 3) % g.Keys // each key once: no config here has a number of keys that 7 divides
			revoked(t, c, key, false)
			answers(t, "Revoke", fuse.Revoke(c, key), api.OK)
			s = also(s, g.Slots*g.Fuses+key)
			did(t, "Revoke", c, k+1, s)
			revoked(t, c, key, true)
			answers(t, "Revoke again", fuse.Revoke(c, key), api.OK)
			did(t, "Revoke again", c, k+1, s)
		}
	}
}

// P7.1: without power each call answers ErrPower, ahead of ErrRange too, and nothing is done.
func TestNoPower(t *testing.T) {
	r := rand.New(rand.NewSource(74))
	for _, g := range configs() {
		c := laid(t, g, written(r, g))
		c.Cut(0, nil)
		answers(t, "Blow", c.Blow(0), api.ErrPower)
		for _, i := range []int{math.MinInt, -1, 0, 1, g.Slots - 1, g.Slots, g.Keys - 1, g.Keys, math.MaxInt} {
			refused(t, c, i, i, api.ErrPower)
		}
		c.Restore()
		for slot := range g.Slots {
			counts(t, c, slot, blown(c.State(), g, slot))
		}
	}
}

// P7.1, P7.2, P7.3: the power goes at each act of each Raise: those ahead of it are done, that one as the mask has it, none behind it; done again, the Raise ends what is left.
func TestRaiseCut(t *testing.T) {
	r := rand.New(rand.NewSource(75))
	g := unlike()
	for slot := range g.Slots {
		for bits := range 1 << g.Fuses {
			s := with(written(r, g), slot*g.Fuses, g.Fuses, bits)
			for n := 0; n <= g.Fuses; n++ {
				fuses := toBlow(s, g, slot, n)
				for at := range fuses {
					for _, m := range masks() {
						c := laid(t, g, s)
						c.Cut(at, m.bytes)
						answers(t, "Raise with a cut", fuse.Raise(c, slot, n), api.ErrPower)
						done := at
						if m.changes {
							done++
						}
						did(t, "Raise with a cut", c, at+1, also(s, fuses[:done]...))
						refused(t, c, slot, 0, api.ErrPower)
						c.Restore()
						counts(t, c, slot, blown(s, g, slot)+done)
						answers(t, "Raise again", fuse.Raise(c, slot, n), api.OK)
						did(t, "Raise again", c, at+1+len(fuses)-done, also(s, fuses...))
						counts(t, c, slot, n)
					}
				}
			}
		}
	}
}

// P7.1: a cut that waits for an act behind a Raise's or a Revoke's last one is not met by it.
func TestCutBehind(t *testing.T) {
	g := unlike()
	for n := range g.Fuses + 1 {
		c := made(t, g)
		c.Cut(n, []byte{0xff})
		answers(t, "Raise", fuse.Raise(c, 1, n), api.OK)
		answers(t, "Raise again", fuse.Raise(c, 1, n), api.OK)
		counts(t, c, 1, n)
		revoked(t, c, 2, false)
		if c.Out() {
			t.Fatal("the power went ahead of the act that it was to go at")
		}
		answers(t, "Revoke", fuse.Revoke(c, 2), api.ErrPower)
	}
	c := made(t, g)
	answers(t, "Revoke", fuse.Revoke(c, 2), api.OK)
	c.Cut(0, nil)
	answers(t, "Revoke again", fuse.Revoke(c, 2), api.OK)
	revoked(t, c, 2, true)
	answers(t, "Revoke of another one", fuse.Revoke(c, 1), api.ErrPower)
}

// P7.1, P7.3: the power goes at a Revoke's act: the key is revoked or not, as the mask has it, and nothing else changes.
func TestRevokeCut(t *testing.T) {
	r := rand.New(rand.NewSource(76))
	g := unlike()
	for key := range g.Keys {
		i := g.Slots*g.Fuses + key
		for _, m := range masks() {
			s := with(written(r, g), i, 1, 0)
			c := laid(t, g, s)
			c.Cut(0, m.bytes)
			answers(t, "Revoke with a cut", fuse.Revoke(c, key), api.ErrPower)
			acts := 1
			want := s
			if m.changes {
				want = also(s, i)
			}
			did(t, "Revoke with a cut", c, acts, want)
			refused(t, c, 0, key, api.ErrPower)
			c.Restore()
			revoked(t, c, key, m.changes)
			answers(t, "Revoke again", fuse.Revoke(c, key), api.OK)
			if !m.changes {
				acts++
			}
			did(t, "Revoke again", c, acts, also(s, i))
			revoked(t, c, key, true)
		}
	}
}

// told is what a script of calls and cuts answers, in one row of numbers.
func told(t *testing.T, seed int64, g api.Config) []int {
	r := rand.New(rand.NewSource(seed))
	c := made(t, g)
	var row []int
	least := make([]int, g.Slots)
	for range 120 {
		slot, key := r.Intn(g.Slots+2)-1, r.Intn(g.Keys+2)-1
		switch r.Intn(7) {
		case 0, 1:
			row = append(row, int(fuse.Raise(c, slot, r.Intn(g.Fuses+3)-1)))
		case 2:
			row = append(row, int(fuse.Revoke(c, key)))
		case 3:
			is, e := fuse.Revoked(c, key)
			row = append(row, int(e))
			if e == api.OK && is != c.State().Blown[g.Slots*g.Fuses+key] {
				t.Errorf("Revoked(%d): %v", key, is)
			}
		case 4:
			c.Cut(r.Intn(4), []byte{byte(r.Intn(256))})
		case 5:
			c.Restore()
		default:
			c.Blow(r.Intn(g.Slots * g.Fuses))
		}
		if c.Out() {
			continue
		}
		for slot := range g.Slots {
			n, e := fuse.Count(c, slot)
			if e != api.OK || n != blown(c.State(), g, slot) || n < least[slot] {
				t.Errorf("Count(%d): %d %v, and it was %d", slot, n, e, least[slot])
			}
			least[slot] = n
			row = append(row, n)
		}
	}
	return append(row, c.Acts())
}

// P7.2, R4: Count never falls, whatever is called and wherever the power goes; and the same scripts answer the same, many at one time too.
func TestManyAtOneTime(t *testing.T) {
	g := unlike()
	var wg sync.WaitGroup
	for seed := range int64(64) {
		want := told(t, seed, g)
		for range 2 {
			wg.Go(func() {
				if got := told(t, seed, g); !slices.Equal(got, want) {
					t.Errorf("script %d: %v, want %v", seed, got, want)
				}
			})
		}
	}
	wg.Wait()
}

// R4: what a call answers hangs on the chip that it is handed alone: a copy goes its own way.
func TestCopies(t *testing.T) {
	c := made(t, unlike())
	answers(t, "Raise", fuse.Raise(c, 1, 2), api.OK)
	d := c.Copy()
	answers(t, "Raise", fuse.Raise(d, 1, 4), api.OK)
	answers(t, "Revoke", fuse.Revoke(d, 4), api.OK)
	counts(t, c, 1, 2)
	counts(t, d, 1, 4)
	revoked(t, c, 4, false)
	revoked(t, d, 4, true)
}
