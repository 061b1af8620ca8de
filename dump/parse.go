package dump

import (
	"iter"
	"strings"

	"portcullis/api"
	"portcullis/chip"
)

const most = 1<<31 - 1 // the greatest number that a text may have

// reader makes a chip out of lines, one behind the other. At the first one that is wrong it gives up: it panics with the error, and its line is that one's number.
type reader struct {
	line   int // the number of the line that is looked at, from 1 on
	config api.Config
	chip   api.Chip
	pages  int // how many pages have had their line
	cell   int // the least cell that the next line may be about, of the last of them
}

func (r *reader) read(text string) {
	for line := range lines(text) {
		r.line++
		r.take(line)
	}
	r.line++
	r.end()
}

// lines goes through the lines of a text, each with its line feed, which the last one may lack.
func lines(text string) iter.Seq[string] {
	return func(yield func(string) bool) {
		rest := text
		for rest != "" {
			n := strings.IndexByte(rest, '\n') + 1
			if n == 0 {
				n = len(rest)
			}
			if !yield(rest[:n]) {
				return
			}
			rest = rest[n:]
		}
	}
}

func (r *reader) take(line string) {
	switch {
	case r.line == 1:
		r.takeConfig(line)
	case r.line == 2:
		r.takeBlown(line)
	case strings.HasPrefix(line, cellWord):
		r.takeCell(line)
	default:
		r.takePage(line)
	}
}

// end is where no line is left: all must have come. (Of no line at all there is no chip, which has no pages.)
func (r *reader) end() {
	must(r.pages > 0 && r.pages == len(r.chip.Pages))
}

// takeConfig looks for the line's end ahead of asking whether the config may be: only a line of its form has one.
func (r *reader) takeConfig(line string) {
	rest := after(line, chipWord)
	var n [7]int
	for i := range n {
		n[i], rest = number(rest)
	}
	ended(rest)
	first, e := chip.New(configOf(n))
	if e != api.OK {
		panic(e)
	}
	r.config, r.chip = first.Config(), first.State()
}

func (r *reader) takeBlown(line string) {
	rest := after(line, blownWord)
	var i int
	for least := 0; rest != "\n"; least = i + 1 {
		i, rest = number(rest)
		must(least <= i && i < len(r.chip.Blown))
		r.chip.Blown[i] = true
	}
}

func (r *reader) takePage(line string) {
	p, rest := number(after(line, pageWord))
	erases, rest := number(rest)
	ended(rest)
	must(p == r.pages && p < len(r.chip.Pages))
	r.chip.Erases[p] = erases
	r.pages++
	r.cell = 0
}

func (r *reader) takeCell(line string) {
	i, rest := number(after(line, cellWord))
	x, rest := cellOf(rest)
	ended(rest)
	must(r.pages > 0 && r.cell <= i && i < r.config.Cells && x != blank())
	r.chip.Pages[r.pages-1][i] = x
	r.cell = i + 1
}

// What follows takes something off the beginning of a line's rest, and tells the rest behind it; or gives up.

func after(rest, word string) string {
	rest, is := strings.CutPrefix(rest, word)
	must(is)
	return rest
}

// number takes a blank and a number. It gives up as soon as that is too great, so that no row of digits runs over.
func number(rest string) (int, string) {
	rest = after(rest, " ")
	n, i := int64(0), 0
	for i < len(rest) && '0' <= rest[i] && rest[i] <= '9' {
		must(i == 0 || n > 0) // no 0 ahead of others
		n = 10*n + int64(rest[i]-'0')
		must(n <= most)
		i++
	}
	must(i > 0)
	return int(n), rest[i:]
}

// cellOf takes a blank and a cell's bytes.
func cellOf(rest string) (api.Cell, string) {
	rest = after(rest, " ")
	var x api.Cell
	must(len(rest) >= 2*len(x))
	for i := range x {
		x[i] = digit(rest[2*i])<<4 | digit(rest[2*i+1])
	}
	return x, rest[2*len(x):]
}

func digit(b byte) byte {
	n := strings.IndexByte(digits, b)
	must(n >= 0)
	return byte(n)
}

func ended(rest string) {
	must(rest == "\n")
}

func must(is bool) {
	if !is {
		panic(api.ErrForm)
	}
}
