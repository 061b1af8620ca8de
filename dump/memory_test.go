package dump_test

import (
	"math/rand"
	"slices"
	"sync"
	"testing"

	"portcullis/api"
	"portcullis/dump"
)

// roomy is the same chip with spare room behind each list, of which nothing may be changed.
func roomy(s api.Chip) api.Chip {
	c := api.Chip{Pages: make([][]api.Cell, 0, len(s.Pages)+3), Erases: make([]int, 0, len(s.Erases)+3), Blown: make([]bool, 0, len(s.Blown)+3)}
	for _, page := range s.Pages {
		p := append(make([]api.Cell, 0, len(page)+3), page...)
		for i := range p[len(p):cap(p)] {
			p[:cap(p)][len(p)+i] = api.Cell{0xa5, byte(i)}
		}
		c.Pages = append(c.Pages, p)
	}
	c.Erases = append(c.Erases, s.Erases...)
	c.Blown = append(c.Blown, s.Blown...)
	for i := range 3 {
		c.Pages[:cap(c.Pages)][len(c.Pages)+i] = []api.Cell{{0x5a, byte(i)}}
		c.Erases[:cap(c.Erases)][len(c.Erases)+i] = -77 - i
		c.Blown[:cap(c.Blown)][len(c.Blown)+i] = true
	}
	return c
}

// stretched is a chip with its spare room.
func stretched(s api.Chip) api.Chip {
	c := api.Chip{Erases: s.Erases[:cap(s.Erases)], Blown: s.Blown[:cap(s.Blown)]}
	for _, page := range s.Pages[:cap(s.Pages)] {
		c.Pages = append(c.Pages, page[:cap(page)])
	}
	return c
}

// P21.4: what Print is given stays as it was, spare room too, whether it is taken or not.
func TestPrintUnchanged(t *testing.T) {
	r := rand.New(rand.NewSource(6))
	bad := chapter()
	bad.Keys = 0
	for _, g := range makes() {
		for range 10 {
			s := roomy(anyChip(t, r, g))
			if r.Intn(4) == 0 {
				s.Erases[1] = -1
			}
			was := again(stretched(s))
			dump.Print(g, s)
			dump.Print(bad, s)
			dump.Print(greatest(), s)
			if !same(stretched(s), was) {
				t.Fatalf("%+v: Print has changed its chip", g)
			}
		}
	}
}

// P21.4: what Print is given is not kept: its text stays, whatever becomes of the chip.
func TestPrintKeepsNothing(t *testing.T) {
	g := makes()[3]
	s := anyChip(t, rand.New(rand.NewSource(7)), g)
	want := told(g, s)
	got, _ := dump.Print(g, s)
	scribble(s)
	if got != want {
		t.Errorf("%q, want %q", got, want)
	}
	if other, _ := dump.Print(g, s); other != told(g, s) {
		t.Errorf("Print has kept a chip: %q", other)
	}
}

// P21.1, P21.4: a chip whose pages are one list, or pieces of one, is told as any other.
func TestPrintSharedPages(t *testing.T) {
	g := makes()[3]
	s := fresh(t, g)
	s.Pages[0][2], s.Pages[0][5] = api.Cell{1}, api.Cell{2}
	for p := range s.Pages {
		s.Pages[p] = s.Pages[0]
	}
	prints(t, g, s)
	row := make([]api.Cell, g.Cells+len(s.Pages))
	for i := range row {
		row[i] = api.Cell{byte(i)}
	}
	for p := range s.Pages {
		s.Pages[p] = row[p : p+g.Cells]
	}
	prints(t, g, s)
}

// scribble writes over all that a chip has, spare room too.
func scribble(s api.Chip) {
	for _, page := range s.Pages[:cap(s.Pages)] {
		page = page[:cap(page)]
		for i := range page {
			page[i] = api.Cell{0xc3, byte(i)}
		}
	}
	for i := range s.Erases[:cap(s.Erases)] {
		s.Erases[:cap(s.Erases)][i] = 4242 + i
	}
	for i := range s.Blown[:cap(s.Blown)] {
		s.Blown[:cap(s.Blown)][i] = !s.Blown[:cap(s.Blown)][i]
	}
}

// P21.4: of what Parse tells no list reaches into another one: each is written over, and appended to, by itself.
func TestParseListsApart(t *testing.T) {
	for _, g := range append(makes(), greatest()) {
		s := anyChip(t, rand.New(rand.NewSource(8)), g)
		got := parsed(told(g, s))
		was := again(got.chip)
		for p := range got.chip.Pages {
			page := got.chip.Pages[p]
			_ = append(page, api.Cell{1}, api.Cell{2})
			for i := range page[:cap(page)] {
				page[:cap(page)][i] = api.Cell{0x99, byte(i)}
			}
			if copy(was.Pages[p], page); !same(got.chip, was) {
				t.Fatalf("%+v: the page %d is a part of something else", g, p)
			}
		}
		_ = append(got.chip.Erases, -1, -2)
		for i := range got.chip.Erases[:cap(got.chip.Erases)] {
			got.chip.Erases[:cap(got.chip.Erases)][i] = -3
		}
		_ = append(got.chip.Blown, true, true)
		for i := range got.chip.Blown[:cap(got.chip.Blown)] {
			got.chip.Blown[:cap(got.chip.Blown)][i] = true
		}
		_ = append(got.chip.Pages, nil, nil)
		if !slices.EqualFunc(got.chip.Pages, was.Pages, slices.Equal) {
			t.Fatalf("%+v: what is written behind a list is seen in a page", g)
		}
	}
}

// P21.4, R4: two answers share nothing, and nothing is kept of the first one.
func TestParseAnswersApart(t *testing.T) {
	for _, text := range nearly() {
		a, want := parsed(text), words(text)
		b := parsed(text)
		scribble(a.chip)
		if !b.same(want) {
			t.Errorf("%q: the second answer has changed with the first one", text)
		}
		if c := parsed(text); !c.same(want) {
			t.Errorf("%q: the third answer has changed with the first one", text)
		}
	}
}

// R4: a call is answered alike when it is done again, behind other calls, and beside itself.
func TestOneAnswer(t *testing.T) {
	r := rand.New(rand.NewSource(9))
	texts := append(nearly(), "", "chip 3 1 2 10 1 5 0\n", text(example()[:3]...), text(example()...)+"x")
	for range 20 {
		g := makes()[r.Intn(5)]
		texts = append(texts, told(g, anyChip(t, r, g)))
	}
	want := make([]answer, len(texts))
	for i, s := range texts {
		want[i] = words(s)
	}
	var wait sync.WaitGroup
	for range 4 {
		wait.Add(1)
		go func() {
			defer wait.Done()
			for n := range 2 * len(texts) {
				i := n % len(texts)
				if got := parsed(texts[i]); !got.same(want[i]) {
					t.Errorf("Parse(%q): %v at %d", short(texts[i]), got.e, got.at)
				}
			}
		}()
	}
	wait.Wait()
}

// R4: Print of one chip by several at one time.
func TestPrintAtOneTime(t *testing.T) {
	g := greatest()
	s := anyChip(t, rand.New(rand.NewSource(10)), g)
	want := told(g, s)
	var got [4]string
	var wait sync.WaitGroup
	for i := range got {
		wait.Add(1)
		go func() {
			defer wait.Done()
			got[i], _ = dump.Print(g, s)
		}()
	}
	wait.Wait()
	for i := range got {
		if got[i] != want {
			t.Errorf("%d: another text", i)
		}
	}
}
