package dump_test

import (
	"fmt"
	"math"
	"math/rand"
	"slices"
	"strings"
	"testing"

	"portcullis/api"
)

// P21.1: by each number alone, a config that may not be.
func TestPrintNoConfig(t *testing.T) {
	for _, right := range []api.Config{chapter(), least(), greatest()} {
		s := fresh(t, right)
		for i, f := range fields(&right) {
			for _, n := range []int{math.MinInt, math.MinInt + 1, -1 << 32, -1, f.least - 1, f.most + 1, 1 << 32, math.MaxInt - 1, math.MaxInt} {
				g := right
				*fields(&g)[i].n = n
				refuses(t, fmt.Sprintf("%+v", g), g, s, api.ErrArg)
				// Whether it is a chip is not asked then.
				refuses(t, fmt.Sprintf("%+v and no chip", g), g, api.Chip{}, api.ErrArg)
				bad := again(s)
				bad.Erases[0] = -1
				refuses(t, fmt.Sprintf("%+v and an erase count of -1", g), g, bad, api.ErrArg)
			}
		}
	}
	refuses(t, "no config", api.Config{}, api.Chip{}, api.ErrArg)
	all := api.Config{Cells: -1, Slots: -1, Fuses: -1, Step: -1, Keys: -1, Erases: -1, Area: -1}
	refuses(t, "a config of -1", all, api.Chip{}, api.ErrArg)
}

// P21.1: each number as small and as great as may be.
func TestPrintConfigEdges(t *testing.T) {
	for _, right := range append(makes(), greatest()) {
		for i, f := range fields(&right) {
			for _, n := range []int{f.least, f.most} {
				g := right
				*fields(&g)[i].n = n
				prints(t, g, fresh(t, g))
			}
		}
	}
}

// P21.1: one thing too many or too few, in each list and in each page.
func TestPrintNoChip(t *testing.T) {
	for _, g := range []api.Config{chapter(), makes()[3]} {
		right := fresh(t, g)
		change := func(what string, do func(s *api.Chip)) {
			t.Helper()
			s := again(right)
			do(&s)
			refuses(t, what, g, s, api.ErrForm)
			bad := g
			bad.Step = 0
			refuses(t, what+", a config that may not be", bad, s, api.ErrArg)
		}
		change("no chip", func(s *api.Chip) { *s = api.Chip{} })
		change("pages nil", func(s *api.Chip) { s.Pages = nil })
		change("erases nil", func(s *api.Chip) { s.Erases = nil })
		change("fuses nil", func(s *api.Chip) { s.Blown = nil })
		change("a page less", func(s *api.Chip) { s.Pages = s.Pages[1:] })
		change("a page more", func(s *api.Chip) { s.Pages = append(s.Pages, slices.Clone(s.Pages[0])) })
		change("an erase count less", func(s *api.Chip) { s.Erases = s.Erases[1:] })
		change("an erase count more", func(s *api.Chip) { s.Erases = append(s.Erases, 0) })
		change("a page and its count less", func(s *api.Chip) { s.Pages, s.Erases = s.Pages[1:], s.Erases[1:] })
		change("a page and its count more", func(s *api.Chip) {
			s.Pages, s.Erases = append(s.Pages, slices.Clone(s.Pages[0])), append(s.Erases, 0)
		})
		change("a fuse less", func(s *api.Chip) { s.Blown = s.Blown[1:] })
		change("a fuse more", func(s *api.Chip) { s.Blown = append(s.Blown, false) })
		for p := range right.Pages {
			page := fmt.Sprintf("page %d: ", p)
			change(page+"nil", func(s *api.Chip) { s.Pages[p] = nil })
			change(page+"no cell", func(s *api.Chip) { s.Pages[p] = s.Pages[p][:0] })
			change(page+"a cell less", func(s *api.Chip) { s.Pages[p] = s.Pages[p][1:] })
			change(page+"a cell more", func(s *api.Chip) { s.Pages[p] = append(s.Pages[p], blank()) })
			change(page+"erased -1 times", func(s *api.Chip) { s.Erases[p] = -1 })
			change(page+"erased as seldom as an int says", func(s *api.Chip) { s.Erases[p] = math.MinInt })
		}
		if p := len(right.Pages) - 1; p > 0 {
			change("a cell of another page", func(s *api.Chip) {
				s.Pages[0], s.Pages[p] = s.Pages[0][1:], append(s.Pages[p], blank())
			})
		}
	}
}

// P21.1: a chip of another config, of which one number is unlike. The steps and the erases of a config no chip shows.
func TestPrintOfAnother(t *testing.T) {
	g := makes()[3]
	s := anyChip(t, rand.New(rand.NewSource(1)), g)
	for i, shown := range []bool{true, true, true, false, true, false, true} {
		for _, by := range []int{-1, 1} {
			other := g
			*fields(&other)[i].n += by
			if shown {
				refuses(t, fmt.Sprintf("%+v of %+v", s, other), other, s, api.ErrForm)
			} else {
				prints(t, other, s)
			}
		}
	}
}

// P21.1: erase counts are told as they are, above the config's too.
func TestPrintErases(t *testing.T) {
	for _, g := range []api.Config{chapter(), least(), makes()[3]} {
		for p := range fresh(t, g).Pages {
			for _, n := range []int{0, 1, g.Erases, g.Erases + 1, api.MaxErases + 1, most - 1, most, most + 1, math.MaxInt - 1, math.MaxInt} {
				s := fresh(t, g)
				s.Erases[p] = n
				text := prints(t, g, s)
				if line := fmt.Sprintf("\npage %d %d\n", p, n); !strings.Contains(text, line) {
					t.Errorf("%q lacks %q", text, line)
				}
				if n > most {
					if got := parsed(text); !got.same(wrong(api.ErrForm, 3+p)) {
						t.Errorf("Parse(%q): %v at %d, want ErrForm at %d", text, got.e, got.at, 3+p)
					}
				}
			}
		}
	}
}

// P21.1: no fuse blown, each by itself, all but that, and all.
func TestPrintFuses(t *testing.T) {
	for _, g := range makes() {
		s := fresh(t, g)
		if text := prints(t, g, s); !strings.Contains(text, "\nblown\n") {
			t.Errorf("no fuse blown: %q", short(text))
		}
		for i := range s.Blown {
			s.Blown[i] = true
			if text := prints(t, g, s); !strings.Contains(text, fmt.Sprintf("\nblown %d\n", i)) {
				t.Errorf("the fuse %d blown: %q", i, short(text))
			}
			s.Blown[i] = false
		}
		for i := range s.Blown {
			s.Blown[i] = true
		}
		prints(t, g, s)
		for i := range s.Blown {
			s.Blown[i] = false
			prints(t, g, s)
			s.Blown[i] = true
		}
	}
}

// P21.1: pages without a cell that isn't blank, with the first one, the last one, each one, all.
func TestPrintCells(t *testing.T) {
	for _, g := range makes() {
		for p := range fresh(t, g).Pages {
			for i := range g.Cells {
				s := fresh(t, g)
				s.Pages[p][i] = api.Cell{0: 0x01, 1: 0x23, 30: 0xab, 31: 0xef}
				text := prints(t, g, s)
				if line := fmt.Sprintf("\npage %d 0\ncell %d 0123%sabef\n", p, i, strings.Repeat("00", 28)); !strings.Contains(text, line) || strings.Count(text, "cell") != 1 {
					t.Errorf("%q lacks %q, or has more", short(text), line)
				}
			}
			s := fresh(t, g)
			clear(s.Pages[p])
			if text := prints(t, g, s); strings.Count(text, "cell") != g.Cells {
				t.Errorf("all of a page: %q", short(text))
			}
		}
	}
}

// P21.1: one bit makes a cell one that isn't blank; each bit is told where it stands.
func TestPrintBits(t *testing.T) {
	g := chapter()
	for i := range 32 {
		for bit := range 8 {
			s := fresh(t, g)
			s.Pages[1][3][i] ^= 1 << bit
			x := strings.Repeat("ff", i) + fmt.Sprintf("%02x", 0xff^1<<bit) + strings.Repeat("ff", 31-i)
			want := "chip 4 1 2 10 1 5 0\nblown\npage 0 0\npage 1 0\ncell 3 " + x + "\n"
			if text := prints(t, g, s); text != want {
				t.Errorf("%q, want %q", text, want)
			}
		}
	}
	for v := range 256 {
		s := fresh(t, g)
		s.Pages[0][0] = api.Cell{7: byte(v)}
		prints(t, g, s)
	}
}

// P21.1, P21.3: areas, none and as many as there may be, on chips of which all is told.
func TestPrintGreatest(t *testing.T) {
	g := greatest()
	s := fresh(t, g)
	for i := range s.Blown {
		s.Blown[i] = true
	}
	r := rand.New(rand.NewSource(2))
	for p := range s.Pages {
		s.Erases[p] = most
		for i := range s.Pages[p] {
			r.Read(s.Pages[p][i][:])
		}
	}
	text := prints(t, g, s)
	if n := strings.Count(text, "\n"); n != 2+130+130*256 {
		t.Errorf("%d lines", n)
	}
	g.Area = 0
	prints(t, g, api.Chip{Pages: s.Pages[:2], Erases: s.Erases[:2], Blown: s.Blown})
	prints(t, greatest(), fresh(t, greatest()))
}
