package chip_test

import (
	"portcullis/api"
	"portcullis/chip"
)

// toy is a chip told bit by bit, as DOC.md's Words have it: what the whole act would leave is reckoned first, and the mask chooses, for each bit, between that and what was there.
type toy struct {
	config api.Config
	flash  [][]bool // of each page its bits, the lowest one of a byte first
	erases []int
	blown  []bool
	acts   int
	out    bool
	waits  []byte // of the cut that waits: its mask
	left   int    // acts from now on; -1: none waits
}

func newToy(c api.Config) *toy {
	y := &toy{config: c, left: -1}
	for range 2 + c.Area + c.Area {
		y.flash = append(y.flash, ones(c.Cells*32*8))
		y.erases = append(y.erases, 0)
	}
	for range c.Slots {
		for range c.Fuses {
			y.blown = append(y.blown, false)
		}
	}
	for range c.Keys {
		y.blown = append(y.blown, false)
	}
	return y
}

func ones(n int) []bool {
	b := make([]bool, n)
	for i := range b {
		b[i] = true
	}
	return b
}

// done does an act to bits, of which it would make them whole.
func (y *toy) done(bits, whole []bool) api.Errno {
	y.acts++
	if y.left != 0 {
		y.left = max(y.left-1, -1)
		copy(bits, whole)
		return api.OK
	}
	for i := range bits {
		if len(y.waits) > 0 && y.waits[i/8%len(y.waits)]>>(i%8)&1 == 1 {
			bits[i] = whole[i]
		}
	}
	y.left, y.out = -1, true
	return api.ErrPower
}

func (y *toy) refused(i, n int) api.Errno {
	switch {
	case y.out:
		return api.ErrPower
	case i < 0 || i >= n:
		return api.ErrRange
	}
	return api.OK
}

func (y *toy) refusedCell(page, cell int) api.Errno {
	if e := y.refused(page, len(y.flash)); e != api.OK {
		return e
	}
	return y.refused(cell, y.config.Cells)
}

func (y *toy) bits(page, cell int) []bool {
	return y.flash[page][cell*256 : (cell+1)*256]
}

func (y *toy) read(page, cell int) (api.Cell, api.Errno) {
	var x api.Cell
	if e := y.refusedCell(page, cell); e != api.OK {
		return x, e
	}
	return y.cell(page, cell), api.OK
}

func (y *toy) cell(page, cell int) api.Cell {
	var x api.Cell
	for i, bit := range y.bits(page, cell) {
		if bit {
			x[i/8] |= 1 << (i % 8)
		}
	}
	return x
}

func (y *toy) program(page, cell int, x api.Cell) api.Errno {
	if e := y.refusedCell(page, cell); e != api.OK {
		return e
	}
	bits := y.bits(page, cell)
	whole := make([]bool, len(bits))
	for i := range bits {
		whole[i] = bits[i] && x[i/8]>>(i%8)&1 == 1
	}
	return y.done(bits, whole)
}

func (y *toy) erase(page int) api.Errno {
	if e := y.refused(page, len(y.flash)); e != api.OK {
		return e
	}
	if y.erases[page] >= y.config.Erases {
		return api.ErrWorn
	}
	y.erases[page]++
	return y.done(y.flash[page], ones(len(y.flash[page])))
}

func (y *toy) blow(i int) api.Errno {
	if e := y.refused(i, len(y.blown)); e != api.OK {
		return e
	}
	return y.done(y.blown[i:i+1], ones(1))
}

func (y *toy) cut(n int, mask []byte) {
	y.left, y.waits = max(n, -1), append([]byte{}, mask...)
}

func (y *toy) state() api.Chip {
	s := api.Chip{Erases: append([]int{}, y.erases...), Blown: append([]bool{}, y.blown...)}
	for p := range y.flash {
		var page []api.Cell
		for k := range y.config.Cells {
			page = append(page, y.cell(p, k))
		}
		s.Pages = append(s.Pages, page)
	}
	return s
}

// both is a chip and its toy, which are told the same.
type both struct {
	c *chip.Chip
	y *toy
}
