package chip

import "portcullis/api"

func blank() api.Cell {
	var x api.Cell
	for i := range x {
		x[i] = 0xff
	}
	return x
}

func pages(c api.Config) int {
	return 2 + 2*c.Area
}

func fuses(c api.Config) int {
	return c.Slots*c.Fuses + c.Keys
}

// first is what a chip holds at first.
func first(c api.Config) api.Chip {
	s := api.Chip{
		Pages:  make([][]api.Cell, pages(c)),
		Erases: make([]int, pages(c)),
		Blown:  make([]bool, fuses(c)),
	}
	b := blank()
	for i := range s.Pages {
		s.Pages[i] = make([]api.Cell, c.Cells)
		for j := range s.Pages[i] {
			s.Pages[i][j] = b
		}
	}
	return s
}

// fits tells whether a chip of that config may hold s. Erases above the
// config's may be: they only wear the page out.
func fits(c api.Config, s api.Chip) bool {
	if len(s.Pages) != pages(c) || len(s.Erases) != pages(c) || len(s.Blown) != fuses(c) {
		return false
	}
	for i, page := range s.Pages {
		if len(page) != c.Cells || s.Erases[i] < 0 {
			return false
		}
	}
	return true
}

// again is the same in memory of its own, each page in a piece that no other
// one reaches into.
func again(s api.Chip) api.Chip {
	t := api.Chip{
		Pages:  make([][]api.Cell, len(s.Pages)),
		Erases: make([]int, len(s.Erases)),
		Blown:  make([]bool, len(s.Blown)),
	}
	for i, page := range s.Pages {
		t.Pages[i] = make([]api.Cell, len(page))
		copy(t.Pages[i], page)
	}
	copy(t.Erases, s.Erases)
	copy(t.Blown, s.Blown)
	return t
}
