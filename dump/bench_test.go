package dump_test

import (
	"bytes"
	"encoding/hex"
	"fmt"
	"math/big"
	"math/rand"
	"regexp"
	"slices"
	"strings"
	"testing"

	"portcullis/api"
	"portcullis/chip"
	"portcullis/dump"
)

const most = 1<<31 - 1 // the greatest number that a text may have

// chapter is the config of the chapter's example.
func chapter() api.Config {
	return api.Config{Cells: 4, Slots: 1, Fuses: 2, Step: 10, Keys: 1, Erases: 5}
}

func least() api.Config {
	return api.Config{Cells: 4, Slots: 1, Fuses: 1, Step: 1, Keys: 1}
}

func greatest() api.Config {
	return api.Config{Cells: api.MaxCells, Slots: api.MaxSlots, Fuses: api.MaxFuses, Step: api.MaxStep, Keys: api.MaxKeys, Erases: api.MaxErases, Area: api.MaxArea}
}

// makes are configs whose numbers are all unlike one another, or at their edges.
func makes() []api.Config {
	return []api.Config{
		chapter(),
		least(),
		{Cells: 11, Slots: 8, Fuses: 2, Step: 65536, Keys: 64, Erases: 65536},
		{Cells: 6, Slots: 2, Fuses: 5, Step: 7, Keys: 3, Erases: 9, Area: 1},
		{Cells: 13, Slots: 3, Fuses: 64, Step: 100, Keys: 1, Erases: 0, Area: 5},
		{Cells: 256, Slots: 1, Fuses: 1, Step: 1, Keys: 11, Erases: 1, Area: 2},
	}
}

// field is one of a config's numbers, with the least and the greatest that it may be beside the others.
type field struct {
	n           *int
	least, most int
}

// fields are a config's numbers, to be set, in the text's order.
func fields(g *api.Config) []field {
	return []field{
		{&g.Cells, g.Slots + 3, api.MaxCells},
		{&g.Slots, 1, min(api.MaxSlots, g.Cells-3)},
		{&g.Fuses, 1, api.MaxFuses},
		{&g.Step, 1, api.MaxStep},
		{&g.Keys, 1, api.MaxKeys},
		{&g.Erases, 0, api.MaxErases},
		{&g.Area, 0, api.MaxArea},
	}
}

// fresh is what a blank chip holds.
func fresh(t *testing.T, g api.Config) api.Chip {
	t.Helper()
	c, e := chip.New(g)
	if e != api.OK {
		t.Fatalf("New(%+v): %v", g, e)
	}
	return c.State()
}

func blank() api.Cell { return api.Cell(bytes.Repeat([]byte{0xff}, 32)) }

// same tells whether two chips are alike; lists without elements are.
func same(a, b api.Chip) bool {
	return slices.EqualFunc(a.Pages, b.Pages, slices.Equal) && slices.Equal(a.Erases, b.Erases) && slices.Equal(a.Blown, b.Blown)
}

// again is the same in other memory.
func again(s api.Chip) api.Chip {
	c := api.Chip{Erases: slices.Clone(s.Erases), Blown: slices.Clone(s.Blown)}
	for _, page := range s.Pages {
		c.Pages = append(c.Pages, slices.Clone(page))
	}
	return c
}

// anyCell is blank, nearly blank, or whatever.
func anyCell(r *rand.Rand) api.Cell {
	x := blank()
	switch r.Intn(5) {
	case 0, 1:
		return x
	case 2:
		x[r.Intn(32)] ^= 1 << r.Intn(8)
		return x
	case 3:
		return api.Cell{}
	}
	r.Read(x[:])
	return x
}

// anyErases is a number of erases that a text may have.
func anyErases(r *rand.Rand, g api.Config) int {
	switch r.Intn(6) {
	case 0:
		return most - r.Intn(2)
	case 1:
		return g.Erases + r.Intn(3)
	case 2:
		return r.Intn(most)
	}
	return r.Intn(g.Erases + 1)
}

// anyChip is one of that config, of which a text may tell all.
func anyChip(t *testing.T, r *rand.Rand, g api.Config) api.Chip {
	t.Helper()
	s := fresh(t, g)
	for p := range s.Pages {
		s.Erases[p] = anyErases(r, g)
		if r.Intn(3) == 0 {
			continue
		}
		for i := range s.Pages[p] {
			s.Pages[p][i] = anyCell(r)
		}
	}
	often := 1 + r.Intn(6)
	for i := range s.Blown {
		s.Blown[i] = r.Intn(often) == 0
	}
	return s
}

// told is a chip's text, by the chapter's words.
func told(g api.Config, s api.Chip) string {
	var b strings.Builder
	fmt.Fprintf(&b, "chip %d %d %d %d %d %d %d\n", g.Cells, g.Slots, g.Fuses, g.Step, g.Keys, g.Erases, g.Area)
	b.WriteString("blown")
	for i, is := range s.Blown {
		if is {
			fmt.Fprintf(&b, " %d", i)
		}
	}
	b.WriteString("\n")
	for p, page := range s.Pages {
		fmt.Fprintf(&b, "page %d %d\n", p, s.Erases[p])
		for i, x := range page {
			if x != blank() {
				fmt.Fprintf(&b, "cell %d %s\n", i, hex.EncodeToString(x[:]))
			}
		}
	}
	return b.String()
}

// answer is what Parse answers.
type answer struct {
	config api.Config
	chip   api.Chip
	e      api.Errno
	at     int
}

func (a answer) same(b answer) bool {
	return a.config == b.config && same(a.chip, b.chip) && a.e == b.e && a.at == b.at
}

func wrong(e api.Errno, at int) answer { return answer{e: e, at: at} }

func parsed(text string) answer {
	c, s, e, at := dump.Parse(text)
	return answer{c, s, e, at}
}

// The forms of the lines; how great their numbers are is asked apart.
var (
	chipForm  = regexp.MustCompile(`^chip( (0|[1-9][0-9]*)){7}\n$`)
	blownForm = regexp.MustCompile(`^blown( (0|[1-9][0-9]*))*\n$`)
	pageForm  = regexp.MustCompile(`^page( (0|[1-9][0-9]*)){2}\n$`)
	cellForm  = regexp.MustCompile(`^cell (0|[1-9][0-9]*) [0-9a-f]{64}\n$`)
)

// small tells these numbers, if none is above 2^31 - 1.
func small(words []string) ([]int, bool) {
	var l []int
	for _, w := range words {
		n, is := new(big.Int).SetString(w, 10)
		if !is || n.Cmp(big.NewInt(most)) > 0 {
			return nil, false
		}
		l = append(l, int(n.Int64()))
	}
	return l, true
}

// numbers tells a line's numbers, if it is of that form, and none is above 2^31 - 1.
func numbers(form *regexp.Regexp, line string) ([]int, bool) {
	if !form.MatchString(line) {
		return nil, false
	}
	return small(strings.Fields(line)[1:])
}

// words is what Parse is to answer, by the chapter's words: line by line, what must stand there.
func words(text string) answer {
	lines := strings.SplitAfter(text, "\n")
	lines = append(lines, "", "") // where the text has ended
	n, is := numbers(chipForm, lines[0])
	if !is {
		return wrong(api.ErrForm, 1)
	}
	g := api.Config{Cells: n[0], Slots: n[1], Fuses: n[2], Step: n[3], Keys: n[4], Erases: n[5], Area: n[6]}
	c, e := chip.New(g)
	if e != api.OK {
		return wrong(api.ErrArg, 1)
	}
	s := c.State()
	if n, is = numbers(blownForm, lines[1]); !is {
		return wrong(api.ErrForm, 2)
	}
	for k, i := range n {
		if i >= len(s.Blown) || k > 0 && i <= n[k-1] {
			return wrong(api.ErrForm, 2)
		}
		s.Blown[i] = true
	}
	at := 2
	for p := range s.Pages {
		n, is := numbers(pageForm, lines[at])
		if !is || n[0] != p {
			return wrong(api.ErrForm, at+1)
		}
		s.Erases[p] = n[1]
		at++
		for last := -1; cellForm.MatchString(lines[at]); at++ {
			w := strings.Fields(lines[at])
			n, is := small(w[1:2])
			if !is || n[0] <= last || n[0] >= g.Cells || w[2] == strings.Repeat("f", 64) {
				return wrong(api.ErrForm, at+1)
			}
			x, _ := hex.DecodeString(w[2])
			s.Pages[p][n[0]] = api.Cell(x)
			last = n[0]
		}
	}
	if lines[at] != "" {
		return wrong(api.ErrForm, at+1)
	}
	return answer{config: g, chip: s}
}

// holds holds Parse against the words; what it takes, Print must tell byte by byte. It tells whether the text was taken.
func holds(t *testing.T, text string) bool {
	t.Helper()
	got, want := parsed(text), words(text)
	if !got.same(want) {
		t.Fatalf("Parse(%q): %v at %d (%+v), want %v at %d (%+v)", short(text), got.e, got.at, got.config, want.e, want.at, want.config)
	}
	if got.e != api.OK {
		return false
	}
	if back, e := dump.Print(got.config, got.chip); back != text || e != api.OK {
		t.Fatalf("Print of Parse(%q): %q, %v", short(text), short(back), e)
	}
	return true
}

// prints is Print, which must take the chip, tell what the words say, and be read back, if that can be.
func prints(t *testing.T, g api.Config, s api.Chip) string {
	t.Helper()
	text, e := dump.Print(g, s)
	if want := told(g, s); text != want || e != api.OK {
		t.Fatalf("Print(%+v): %q, %v, want %q", g, short(text), e, short(want))
	}
	if slices.Max(s.Erases) <= most {
		if got := parsed(text); !got.same(answer{config: g, chip: s}) {
			t.Fatalf("Parse(%q): %v at %d, another chip", short(text), got.e, got.at)
		}
	}
	return text
}

// refuses is Print, which must tell that error and nothing else.
func refuses(t *testing.T, what string, g api.Config, s api.Chip, want api.Errno) {
	t.Helper()
	if text, e := dump.Print(g, s); text != "" || e != want {
		t.Errorf("Print, %s: %q, %v, want %v", what, short(text), e, want)
	}
}

func short(text string) string {
	if len(text) > 900 {
		return text[:900] + "..."
	}
	return text
}
