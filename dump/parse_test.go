package dump_test

import (
	"fmt"
	"math"
	"math/big"
	"math/rand"
	"slices"
	"strconv"
	"strings"
	"testing"

	"portcullis/api"
	"portcullis/chip"
)

var zeros = strings.Repeat("0", 64)

// example is the chapter's text, line by line.
func example() []string {
	return []string{"chip 4 1 2 10 1 5 0", "blown 0 2", "page 0 0", "page 1 1", "cell 2 " + zeros}
}

// long is the text of a chip with areas, several cells to a page, and numbers of several digits, line by line.
func long() []string {
	return []string{
		"chip 13 2 6 10 3 50 1",
		"blown 0 1 9 10 14",
		"page 0 17",
		"cell 0 " + strings.Repeat("0123456789abcdef", 4),
		"cell 2 " + zeros[1:] + "1",
		"cell 12 " + strings.Repeat("f", 63) + "e",
		"page 1 0",
		"page 2 2147483647",
		"cell 1 " + "7" + strings.Repeat("f", 63),
		"cell 11 " + strings.Repeat("a", 64),
		"page 3 50",
		"cell 0 " + zeros,
		"cell 12 " + zeros,
	}
}

// text is lines, each followed by a line feed.
func text(lines ...string) string {
	if len(lines) == 0 {
		return ""
	}
	return strings.Join(lines, "\n") + "\n"
}

// with is those lines, of which the one of that number, from 1 on, is these.
func with(lines []string, at int, by ...string) string {
	return text(slices.Concat(lines[:at-1], by, lines[at:])...)
}

// tells is Parse, which must tell that error at that line, and nothing else; and so must the words, or a test is wrong.
func tells(t *testing.T, text string, e api.Errno, at int) {
	t.Helper()
	if got := parsed(text); !got.same(wrong(e, at)) {
		t.Errorf("Parse(%q): %v at %d (%+v), want %v at %d", short(text), got.e, got.at, got.config, e, at)
	}
	holds(t, text)
}

// The chapter's chip as text, and back; of the whole's examples the tenth.
func TestExample(t *testing.T) {
	c, e := chip.New(chapter())
	if e != api.OK {
		t.Fatal(e)
	}
	for _, e := range []api.Errno{c.Erase(1), c.Program(1, 2, api.Cell{}), c.Blow(0), c.Blow(2)} {
		if e != api.OK {
			t.Fatal(e)
		}
	}
	if got := prints(t, chapter(), c.State()); got != text(example()...) {
		t.Errorf("%q", got)
	}
	if got := parsed(text(example()...)); !got.same(answer{config: chapter(), chip: c.State()}) {
		t.Errorf("%+v", got)
	}
}

// The chapter's table.
func TestExamplesWrong(t *testing.T) {
	l := example()
	for _, x := range []struct {
		text string
		e    api.Errno
		at   int
	}{
		{"", api.ErrForm, 1},
		{l[0], api.ErrForm, 1},
		{"chip 3 1 2 10 1 5 0", api.ErrForm, 1},
		{with(l, 1, "chip 3 1 2 10 1 5 0"), api.ErrArg, 1},
		{with(l, 1, "chip 04 1 2 10 1 5 0"), api.ErrForm, 1},
		{with(l, 1, "chip 4 1 2 10 1 5"), api.ErrForm, 1},
		{with(l, 2, "blown 2 0"), api.ErrForm, 2},
		{with(l, 2, "blown 3"), api.ErrForm, 2},
		{with(l, 2, "blown "), api.ErrForm, 2},
		{with(l, 3), api.ErrForm, 3},
		{with(l, 4), api.ErrForm, 5},
		{with(l, 5, "cell 4 "+zeros), api.ErrForm, 5},
		{with(l, 5, "cell 2 "+strings.Repeat("f", 64)), api.ErrForm, 5},
		{with(l, 5, "cell 2 A"+zeros[1:]), api.ErrForm, 5},
		{with(l, 5, "cell 2 "+zeros[1:]), api.ErrForm, 5},
		{text(append(l, l[4])...), api.ErrForm, 6},
		{text(append(l, "")...), api.ErrForm, 6},
	} {
		tells(t, x.text, x.e, x.at)
	}
}

// P21.2: a text cut off behind each byte is wrong in the line that was cut, or would have come next; but that cells may be missing.
func TestCutOff(t *testing.T) {
	for _, l := range [][]string{example(), long(), {"chip 4 1 1 1 1 0 0", "blown", "page 0 0", "page 1 0"}} {
		whole := text(l...)
		last := strings.LastIndex(whole, "page") // where the line of the last page begins
		for n := range len(whole) {
			got := whole[:n]
			if n > last && strings.HasSuffix(got, "\n") {
				if !holds(t, got) {
					t.Errorf("%q was refused", got)
				}
				continue
			}
			tells(t, got, api.ErrForm, 1+strings.Count(got, "\n"))
		}
		if !holds(t, whole) {
			t.Errorf("%q was refused", whole)
		}
	}
}

// P21.2: a line feed alone, many of them, and no text at all.
func TestEmptyLines(t *testing.T) {
	for _, s := range []string{"\n", "\n\n", strings.Repeat("\n", 9), "\n" + text(example()...), "\r\n", " \n", "\x00", "\x00\n", "\xff\n"} {
		tells(t, s, api.ErrForm, 1)
	}
	for i := range example() {
		tells(t, text(slices.Insert(example(), i, "")...), api.ErrForm, i+1)
	}
}

// P21.2: each line left out, put behind the next one, laid twice, cut by blanks and other bytes.
func TestLines(t *testing.T) {
	for _, l := range [][]string{example(), long()} {
		for i, line := range l {
			at := i + 1
			holds(t, with(l, at))
			tells(t, with(l, at, line, line), api.ErrForm, at+1)
			if i+1 < len(l) {
				m := slices.Clone(l)
				m[i], m[i+1] = m[i+1], m[i]
				holds(t, text(m...))
			}
			for _, s := range []string{
				" " + line, line + " ", "\t" + line, line + "\t", line + "\r", "\r" + line, "", " ",
				line + "\x00", "\x00" + line, line + "\x80", "\xff" + line, line + "x", line + ",",
				strings.ToUpper(line[:1]) + line[1:], line[1:], strings.ReplaceAll(line, " ", ""), strings.Fields(line)[0],
			} {
				if s == line || i == 1 && s == "blown" {
					continue
				}
				tells(t, with(l, at, s), api.ErrForm, at)
			}
			for k := range line {
				if line[k] != ' ' {
					continue
				}
				for _, by := range []string{"  ", "\t", "\r", "\n", "\x00", "\xa0", "\u00a0", ",", "", " \t"} {
					holds(t, with(l, at, line[:k]+by+line[k+1:]))
					if by != "\n" && by != "" { // both may leave another right line
						tells(t, with(l, at, line[:k]+by+line[k+1:]), api.ErrForm, at)
					}
				}
			}
		}
	}
}

// P21.2: lines left out and put behind the next one, of the chapter's text.
func TestLinesOfExample(t *testing.T) {
	for i, at := range []int{1, 2, 3, 5} {
		tells(t, with(example(), i+1), api.ErrForm, at)
	}
	if !holds(t, with(example(), 5)) {
		t.Errorf("without its cell it is a text, too")
	}
	for i, at := range []int{1, 2, 3} {
		l := example()
		l[i], l[i+1] = l[i+1], l[i]
		tells(t, text(l...), api.ErrForm, at)
	}
	tells(t, text("chip 4 1 2 10 1 5 0", "blown 0 2", "page 0 0", "cell 2 "+zeros, "page 1 1", "page 1 1"), api.ErrForm, 6)
	if !holds(t, text("chip 4 1 2 10 1 5 0", "blown 0 2", "page 0 0", "cell 2 "+zeros, "page 1 1")) {
		t.Errorf("the cell may be one of the page 0")
	}
}

// badNumbers are words that are no number of at most 2^31 - 1, though some would be n, if they were cut off or ran over.
func badNumbers(n int) []string {
	plus := func(bits uint) string {
		x := new(big.Int).Lsh(big.NewInt(1), bits)
		return x.Add(x, big.NewInt(int64(n))).String()
	}
	word := strconv.Itoa(n)
	return []string{
		"", "0" + word, "00" + word, "00", "-" + word, "+" + word, "-0", "-1", word + ".", word + ".0", word + "e0", "0x" + word, word + "_0", word + "a", "a" + word, "a", "x", "\u0661", "\x00", word + "\x00",
		"2147483648", "2147483649", "4294967295", "4294967296", "9223372036854775807", "9223372036854775808", "18446744073709551615", "18446744073709551616",
		plus(31), plus(32), plus(63), plus(64), plus(128),
		strings.Repeat("9", 1000), "1" + strings.Repeat("0", 1000), strings.Repeat("0", 999) + word, "1" + strings.Repeat("0", 999) + word,
	}
}

// places goes through a text's places of numbers: its line, from 1 on, the word's number in that line, and the number.
func places(lines []string, do func(at, k, n int)) {
	for i, line := range lines {
		for k, w := range strings.Fields(line) {
			if n, err := strconv.Atoi(w); err == nil && len(w) < 64 {
				do(i+1, k, n)
			}
		}
	}
}

// put is those lines with another word at a place.
func put(lines []string, at, k int, word string) string {
	w := strings.Split(lines[at-1], " ")
	w[k] = word
	return with(lines, at, strings.Join(w, " "))
}

// P21.2: at each place where a number stands, what is none, or too great.
func TestNumbers(t *testing.T) {
	for _, l := range [][]string{example(), long()} {
		places(l, func(at, k, n int) {
			for _, bad := range badNumbers(n) {
				tells(t, put(l, at, k, bad), api.ErrForm, at)
			}
			most := put(l, at, k, "2147483647")
			erases := k == 2 && strings.HasPrefix(l[at-1], "page")
			switch {
			case at == 1:
				tells(t, most, api.ErrArg, 1)
			case erases && !holds(t, most):
				t.Errorf("%q was refused", most)
			case !erases:
				tells(t, most, api.ErrForm, at)
			}
		})
	}
}

// P21.2: the number of erases is the text's, not the config's.
func TestErases(t *testing.T) {
	for _, n := range []int{0, 1, 5, 6, api.MaxErases, api.MaxErases + 1, most - 1, most} {
		got := parsed(put(example(), 3, 2, strconv.Itoa(n)))
		if got.e != api.OK || got.at != 0 || !slices.Equal(got.chip.Erases, []int{n, 1}) {
			t.Errorf("%d: %+v", n, got)
		}
	}
}

// P21.2: a first line of six, seven and eight numbers, and of its form, but of a config that may not be.
func TestFirstLine(t *testing.T) {
	l := example()
	for _, line := range []string{
		"chip", "chip ", "chip 4", "chip 4 1 2 10 1 5", "chip 4 1 2 10 1 5 ", "chip 4 1 2 10 1 5 0 0", "chip 4 1 2 10 1 5 0 ", "chip4 1 2 10 1 5 0", "chips 4 1 2 10 1 5 0", "CHIP 4 1 2 10 1 5 0", "4 1 2 10 1 5 0", "chip 0 0 0 0 0 0", "chip 0 0 0 0 0 0 0 0", "page 0 0", "blown",
		"chip 2147483648 1 2 10 1 5 0", "chip 3 1 2 10 1 5 2147483648",
	} {
		tells(t, with(l, 1, line), api.ErrForm, 1)
		tells(t, line+"\n", api.ErrForm, 1)
		tells(t, line, api.ErrForm, 1)
	}
	for i := range fields(new(api.Config)) {
		right := chapter()
		f := fields(&right)[i]
		for _, n := range []int{f.least - 1, f.most + 1, most - 1, most} {
			if n < 0 {
				continue
			}
			g := right
			*fields(&g)[i].n = n
			line, _, _ := strings.Cut(told(g, api.Chip{}), "\n")
			tells(t, with(l, 1, line), api.ErrArg, 1)
			tells(t, line+"\n", api.ErrArg, 1)
			tells(t, line+"\n\n\n", api.ErrArg, 1)
			tells(t, line+"\nblown 9 9", api.ErrArg, 1)
			tells(t, line, api.ErrForm, 1)
			tells(t, line+" \n", api.ErrForm, 1)
			tells(t, line+" 0\n", api.ErrForm, 1)
		}
	}
	tells(t, with(l, 1, "chip 0 0 0 0 0 0 0"), api.ErrArg, 1)
}

// P21.2: the config's numbers stand where the chapter has them, as small and as great as may be.
func TestConfigs(t *testing.T) {
	for _, right := range append(makes(), greatest()) {
		for i, f := range fields(&right) {
			for _, n := range []int{f.least, f.most} {
				g := right
				*fields(&g)[i].n = n
				s := fresh(t, g)
				if got := parsed(told(g, s)); !got.same(answer{config: g, chip: s}) {
					t.Errorf("%+v: %v at %d, %+v", g, got.e, got.at, got.config)
				}
			}
		}
	}
}

// P21.2: fuses falling, twice the same, at and above how many there are.
func TestBlown(t *testing.T) {
	for _, x := range []struct {
		line string
		want []int // nil: it is wrong
	}{
		{"blown", []int{}},
		{"blown 0", []int{0}},
		{"blown 2", []int{2}},
		{"blown 0 1", []int{0, 1}},
		{"blown 1 2", []int{1, 2}},
		{"blown 0 1 2", []int{0, 1, 2}},
		{"blown 0 0", nil}, {"blown 2 2", nil}, {"blown 0 1 1", nil}, {"blown 0 0 1", nil},
		{"blown 1 0", nil}, {"blown 2 1", nil}, {"blown 0 2 1", nil}, {"blown 2 0 1", nil},
		{"blown 3", nil}, {"blown 0 3", nil}, {"blown 0 1 2 3", nil}, {"blown 4", nil}, {"blown 99", nil},
		{"blown -1", nil}, {"blown  0", nil}, {"blown 0  1", nil}, {"blown0", nil}, {"blow 0", nil}, {"blown x", nil}, {"blown 0 x", nil}, {"blown 0 ", nil},
		{"Blown", nil}, {"", nil}, {"0 1", nil}, {"page 0 0", nil}, {"cell 0 " + zeros, nil},
	} {
		if x.want == nil {
			tells(t, with(example(), 2, x.line), api.ErrForm, 2)
			tells(t, text(example()[0], x.line), api.ErrForm, 2)
			continue
		}
		want := make([]bool, 3)
		for _, i := range x.want {
			want[i] = true
		}
		if got := parsed(with(example(), 2, x.line)); got.e != api.OK || !slices.Equal(got.chip.Blown, want) {
			t.Errorf("%q: %v at %d, %v", x.line, got.e, got.at, got.chip.Blown)
		}
	}
	g := greatest()
	s := fresh(t, g)
	s.Blown[575] = true
	l := strings.Split(strings.TrimSuffix(told(g, s), "\n"), "\n")
	holds(t, text(l...))
	tells(t, with(l, 2, "blown 575 576"), api.ErrForm, 2)
	tells(t, with(l, 2, "blown 576"), api.ErrForm, 2)
}

// P21.2: pages out of order, one too few and one too many.
func TestPages(t *testing.T) {
	first := example()[:2]
	for _, x := range []struct {
		lines []string
		at    int // 0: they are right
	}{
		{[]string{"page 0 0", "page 1 0"}, 0},
		{nil, 3},
		{[]string{"page 0 0"}, 4},
		{[]string{"page 1 0"}, 3},
		{[]string{"page 1 0", "page 0 0"}, 3},
		{[]string{"page 0 0", "page 0 0"}, 4},
		{[]string{"page 0 0", "page 2 0"}, 4},
		{[]string{"page 0 0", "page 1 0", "page 2 0"}, 5},
		{[]string{"page 0 0", "page 1 0", "page 1 0"}, 5},
		{[]string{"page 0 0", "page 1 0", "page 0 0"}, 5},
		{[]string{"page 0", "page 1 0"}, 3},
		{[]string{"page 0 0 0", "page 1 0"}, 3},
		{[]string{"page  0 0", "page 1 0"}, 3},
		{[]string{"page 0 0", "page1 0"}, 4},
		{[]string{"page", "page 1 0"}, 3},
		{[]string{"0 0", "page 1 0"}, 3},
		{[]string{"cell 0 " + zeros, "page 0 0", "page 1 0"}, 3},
		{[]string{"blown", "page 0 0", "page 1 0"}, 3},
		{[]string{"page 0 0", "blown", "page 1 0"}, 4},
		{[]string{"page 0 0", "chip 4 1 2 10 1 5 0", "page 1 0"}, 4},
	} {
		s := text(slices.Concat(first, x.lines)...)
		if x.at != 0 {
			tells(t, s, api.ErrForm, x.at)
		} else if !holds(t, s) {
			t.Errorf("%q was refused", s)
		}
	}
	for _, g := range makes() {
		l := strings.Split(strings.TrimSuffix(told(g, fresh(t, g)), "\n"), "\n")
		n := len(l)
		tells(t, text(l[:n-1]...), api.ErrForm, n)
		tells(t, text(append(l, fmt.Sprintf("page %d 0", n-2))...), api.ErrForm, n+1)
		for at := 3; at <= n; at++ {
			if at < n {
				tells(t, with(l, at), api.ErrForm, at)
			}
			tells(t, put(l, at, 1, strconv.Itoa(at-2)), api.ErrForm, at)
			if at > 3 {
				tells(t, put(l, at, 1, strconv.Itoa(at-4)), api.ErrForm, at)
			}
		}
	}
}

// P21.2: cells falling, twice the same, at and above Cells, all bytes ff, of other digits and of more or fewer of them.
func TestCells(t *testing.T) {
	first := example()[:4]
	fs := strings.Repeat("f", 64)
	for _, x := range []struct {
		lines []string
		at    int // 0: they are right
	}{
		{nil, 0},
		{[]string{"cell 0 " + zeros}, 0},
		{[]string{"cell 3 " + zeros}, 0},
		{[]string{"cell 0 " + zeros, "cell 3 " + zeros}, 0},
		{[]string{"cell 0 " + zeros, "cell 1 " + zeros, "cell 2 " + zeros, "cell 3 " + zeros}, 0},
		{[]string{"cell 1 " + fs[1:] + "e"}, 0},
		{[]string{"cell 1 7" + fs[1:]}, 0},
		{[]string{"cell 1 " + strings.Repeat("09af", 16)}, 0},
		{[]string{"cell 3 " + zeros, "cell 0 " + zeros}, 6},
		{[]string{"cell 1 " + zeros, "cell 1 " + zeros}, 6},
		{[]string{"cell 0 " + zeros, "cell 0 " + zeros}, 6},
		{[]string{"cell 0 " + zeros, "cell 0 " + zeros[1:] + "1"}, 6},
		{[]string{"cell 0 " + zeros, "cell 2 " + zeros, "cell 1 " + zeros}, 7},
		{[]string{"cell 4 " + zeros}, 5},
		{[]string{"cell 3 " + zeros, "cell 4 " + zeros}, 6},
		{[]string{"cell 5 " + zeros}, 5},
		{[]string{"cell 256 " + zeros}, 5},
		{[]string{"cell -1 " + zeros}, 5},
		{[]string{"cell 0 " + fs}, 5},
		{[]string{"cell 0 " + zeros, "cell 1 " + fs}, 6},
		{[]string{"cell 0 " + zeros[1:]}, 5},
		{[]string{"cell 0 " + zeros + "0"}, 5},
		{[]string{"cell 0 " + zeros[2:]}, 5},
		{[]string{"cell 0 " + zeros + "00"}, 5},
		{[]string{"cell 0 " + fs[1:]}, 5},
		{[]string{"cell 0 " + fs + "f"}, 5},
		{[]string{"cell 0 " + zeros + " 0"}, 5},
		{[]string{"cell 0 " + zeros[:32] + " " + zeros[32:]}, 5},
		{[]string{"cell 0"}, 5},
		{[]string{"cell 0 "}, 5},
		{[]string{"cell"}, 5},
		{[]string{"cell " + zeros}, 5},
		{[]string{"cell0 " + zeros}, 5},
		{[]string{"cells 0 " + zeros}, 5},
		{[]string{"Cell 0 " + zeros}, 5},
		{[]string{"0 " + zeros}, 5},
	} {
		s := text(slices.Concat(first, x.lines)...)
		if x.at != 0 {
			tells(t, s, api.ErrForm, x.at)
		} else if !holds(t, s) {
			t.Errorf("%q was refused", s)
		}
	}
}

// P21.2: each digit of a cell is one of sixteen, and stands for its four bits.
func TestDigits(t *testing.T) {
	for i := range 64 {
		for v := range 256 {
			b := []byte(zeros)
			b[i] = byte(v)
			s := with(example(), 5, "cell 2 "+string(b))
			n := strings.IndexByte("0123456789abcdef", byte(v))
			if n < 0 {
				tells(t, s, api.ErrForm, 5)
				continue
			}
			var want api.Cell
			want[i/2] = byte(n << (4 * (1 - i%2)))
			if got := parsed(s); got.e != api.OK || got.chip.Pages[1][2] != want {
				t.Fatalf("%q: %v at %d, %x", s, got.e, got.at, got.chip.Pages)
			}
		}
	}
}

// P21.2: the numbers of cells begin anew with each page.
func TestCellsOfEachPage(t *testing.T) {
	for _, g := range makes() {
		for p := range fresh(t, g).Pages {
			s := fresh(t, g)
			s.Pages[p][g.Cells-1], s.Pages[(p+1)%len(s.Pages)][0] = api.Cell{1}, api.Cell{2}
			if !holds(t, told(g, s)) {
				t.Errorf("%q was refused", told(g, s))
			}
			over := strings.Replace(told(g, s), fmt.Sprintf("cell %d ", g.Cells-1), fmt.Sprintf("cell %d ", g.Cells), 1)
			tells(t, over, api.ErrForm, 1+strings.Count(over[:strings.Index(over, fmt.Sprintf("cell %d ", g.Cells))], "\n"))
		}
	}
}

// P21.2: behind the last line nothing.
func TestBehind(t *testing.T) {
	for _, l := range [][]string{example(), example()[:4], long()} {
		for _, s := range []string{"\n", " ", "\x00", "x", "\r", "\t", "\r\n", " \n", "x\n", "page", "page 2 0", "page 2 0\n", "page 4 0\n", "cell", "cell 3", "cell 1 " + zeros, "cell 13 " + zeros + "\n", "cell 3 " + strings.Repeat("f", 64) + "\n", "blown\n", "chip 4 1 2 10 1 5 0\n", text(l...), "\xff", "\xef\xbb\xbf"} {
			tells(t, text(l...)+s, api.ErrForm, len(l)+1)
		}
		tells(t, "\xef\xbb\xbf"+text(l...), api.ErrForm, 1)
		tells(t, strings.ReplaceAll(text(l...), "\n", "\r\n"), api.ErrForm, 1)
		tells(t, strings.ReplaceAll(text(l...), "\n", ""), api.ErrForm, 1)
		tells(t, strings.TrimSuffix(text(l...), "\n"), api.ErrForm, len(l))
	}
}

// P21.2: of several wrong lines the first one is told.
func TestFirstWrong(t *testing.T) {
	for _, l := range [][]string{example(), long()} {
		for i := range l {
			for k := i; k < len(l); k++ {
				m := slices.Clone(l)
				m[i], m[k] = m[i]+" ", m[k]+"x"
				tells(t, text(m...), api.ErrForm, i+1)
			}
		}
	}
}

// R1: texts of a million bytes end, and are answered as short ones are.
func TestGreatTexts(t *testing.T) {
	const n = 1 << 20
	for _, s := range []string{"\n", " ", "9", "0", "\x00", "f", "chip ", "cell 0 ", "page 0 0\n", "\xff"} {
		many := strings.Repeat(s, n/len(s))
		for _, x := range []struct {
			text string
			at   int
		}{
			{many, 1},
			{"chip 4 1 2 10 1 5 " + many + "\n", 1},
			{"chip 4 1 2 10 1 5 0 " + many, 1},
			{text(example()[0]) + "blown " + many, 2},
			{text(example()[0]) + "blown 0" + many, 2},
			{text(example()...) + many, 6},
			{text(example()...) + "cell 3 " + many + "\n", 6},
		} {
			at := x.at
			if s == "\n" && strings.HasSuffix(x.text, "0"+many) { // the fuse 0, and empty lines
				at = 3
			}
			if got := parsed(x.text); !got.same(wrong(api.ErrForm, at)) {
				t.Errorf("Parse(%q): %v at %d, want ErrForm at %d", short(x.text), got.e, got.at, at)
			}
		}
	}
}

// R1: rows of bytes, and of pieces of texts, that somebody has thrown together.
func TestAnyBytes(t *testing.T) {
	r := rand.New(rand.NewSource(3))
	pieces := []string{"chip", "blown", "page", "cell", " ", " ", " ", "\n", "\n", "0", "1", "2", "4", "10", "\r", "\t", "\x00", "-", "f", zeros, strconv.Itoa(math.MaxInt)}
	for range 20000 {
		b := make([]byte, r.Intn(40))
		r.Read(b)
		holds(t, string(b))
		var s strings.Builder
		if r.Intn(3) > 0 {
			s.WriteString(text(example()[:r.Intn(6)]...))
		}
		for range r.Intn(12) {
			s.WriteString(pieces[r.Intn(len(pieces))])
		}
		holds(t, s.String())
	}
}
