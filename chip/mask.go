package chip

import "portcullis/api"

// mask says which bits of an act change. It is a text because nobody can write
// that over: copies of a chip may share it.
type mask string

const (
	whole   mask = "\xff"
	nothing mask = "\x00"
)

// keep makes a mask of bytes. Those beyond a page's are dropped, since no act
// is about so many.
func keep(b []byte, cells int) mask {
	if len(b) == 0 {
		return nothing
	}
	return mask(b[:min(len(b), cells*len(api.Cell{}))])
}

func (m mask) at(i int) byte {
	return m[i%len(m)]
}

// lower programs a cell, where the mask lets it.
func (m mask) lower(x *api.Cell, by api.Cell) {
	for i := range x {
		x[i] &= by[i] | ^m.at(i)
	}
}

// raise erases a page, where the mask lets it. A blank cell is left out, since
// no mask changes one.
func (m mask) raise(page []api.Cell) {
	b := blank()
	for i := range page {
		if page[i] == b {
			continue
		}
		for j := range page[i] {
			page[i][j] |= m.at(i*len(b) + j)
		}
	}
}
