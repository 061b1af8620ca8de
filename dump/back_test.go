package dump_test

import (
	"math/rand"
	"slices"
	"strconv"
	"strings"
	"testing"

	"portcullis/api"
	"portcullis/chip"
	"portcullis/dump"
)

// P21.3: chips of many makes, whatever lies on them, are read as what they were.
func TestThereAndBack(t *testing.T) {
	r := rand.New(rand.NewSource(4))
	for _, g := range makes() {
		prints(t, g, fresh(t, g))
		for range 60 {
			prints(t, g, anyChip(t, r, g))
		}
	}
	for range 3 {
		prints(t, greatest(), anyChip(t, r, greatest()))
	}
}

// P21.3: what is read is a chip that layer 4 lays, and works on.
func TestBackOnAChip(t *testing.T) {
	got := parsed(text(long()...))
	c, e := chip.Lay(got.config, got.chip)
	if e != api.OK {
		t.Fatal(e)
	}
	for _, e := range []api.Errno{c.Erase(0), c.Program(1, 5, api.Cell{}), c.Blow(13)} {
		if e != api.OK {
			t.Fatal(e)
		}
	}
	if e := c.Erase(3); e != api.ErrWorn {
		t.Errorf("Erase of a page that was erased 50 times: %v", e)
	}
	l := slices.Delete(long(), 3, 6) // the cells of the page 0
	l[1], l[2] = "blown 0 1 9 10 13 14", "page 0 18"
	l = slices.Insert(l, 4, "cell 5 "+zeros)
	if got := prints(t, got.config, c.State()); got != text(l...) {
		t.Errorf("%q", got)
	}
}

// nearly are texts with every kind of line, short enough that each byte of them can be changed.
func nearly() []string {
	return []string{
		text(example()...),
		text(long()...),
		text("chip 4 1 1 1 1 0 0", "blown", "page 0 0", "page 1 0"),
		text("chip 5 2 1 2 1 3 1", "blown 0 1 2", "page 0 10", "page 1 0", "page 2 3", "cell 4 "+strings.Repeat("f", 63)+"0", "page 3 2147483646"),
	}
}

// changes goes through all texts that one byte changed, left out or put in makes of a text, with each of these bytes.
func changes(text string, by []byte, do func(string)) {
	for i := range len(text) + 1 {
		for _, b := range by {
			do(text[:i] + string([]byte{b}) + text[i:])
			if i < len(text) && text[i] != b {
				do(text[:i] + string([]byte{b}) + text[i+1:])
			}
		}
		if i < len(text) {
			do(text[:i] + text[i+1:])
		}
	}
}

// P21.2, P21.3: whatever is taken is told byte by byte, and nothing else is taken than the words say.
func TestOneByte(t *testing.T) {
	var all []byte
	for b := range 256 {
		all = append(all, byte(b))
	}
	some := []byte("\x00\t\n\r +-./0123459:@AFG`acfghpx\x7f\x80\xff")
	for i, s := range nearly() {
		by := all
		if i == 1 { // the long one
			by = some
		}
		taken, refused := 0, 0
		changes(s, by, func(s string) {
			if holds(t, s) {
				taken++
			} else {
				refused++
			}
		})
		if taken == 0 || refused == 0 {
			t.Errorf("%q: %d changes were taken, %d refused", s, taken, refused)
		}
	}
}

// P21.2, P21.3: two bytes exchanged for one another, next to each other or not.
func TestTwoBytes(t *testing.T) {
	for _, s := range nearly()[2:] {
		for i := range len(s) {
			for k := range i {
				b := []byte(s)
				b[i], b[k] = b[k], b[i]
				holds(t, string(b))
			}
		}
	}
}

// anyNumber is one that is right more often than not, where numbers up to n are.
func anyNumber(r *rand.Rand, n int) string {
	switch r.Intn(40) {
	case 0:
		return strconv.Itoa(n)
	case 1:
		return "0" + strconv.Itoa(r.Intn(n))
	case 2:
		return strconv.Itoa(most + r.Intn(2))
	}
	return strconv.Itoa(r.Intn(n))
}

// anyLine is a line of some form, whether that must stand there or not.
func anyLine(r *rand.Rand, g api.Config) string {
	switch r.Intn(20) {
	case 0:
		return "blown"
	case 1:
		return "blown " + anyNumber(r, 2) + " " + anyNumber(r, 5)
	case 2:
		return "page " + anyNumber(r, 2+2*g.Area) + " " + anyNumber(r, 99)
	case 3:
		return ""
	case 4:
		return "cell " + anyNumber(r, g.Cells) + " " + strings.Repeat("f", 64)
	}
	return "cell " + anyNumber(r, g.Cells) + " " + zeros
}

// P21.2, P21.3: texts whose lines are of their forms, but stand anywhere.
func TestAnyLines(t *testing.T) {
	r := rand.New(rand.NewSource(5))
	taken := 0
	for range 30000 {
		g := makes()[r.Intn(5)]
		l := strings.Split(strings.TrimSuffix(told(g, fresh(t, g)), "\n"), "\n")
		for range r.Intn(4) {
			at := 2 + r.Intn(len(l)-1)
			switch r.Intn(8) {
			case 0:
				l[at-1] = anyLine(r, g)
			case 1:
				l = slices.Delete(l, at-1, at)
			default:
				l = slices.Insert(l, at, anyLine(r, g))
			}
		}
		if holds(t, text(l...)) {
			taken++
		}
	}
	if taken < 3000 {
		t.Errorf("%d texts were taken: the test tells little", taken)
	}
}

// FuzzParse looks for a text that is answered otherwise than the words say; by itself it takes its seeds alone.
func FuzzParse(f *testing.F) {
	for _, s := range nearly() {
		f.Add(s)
	}
	f.Fuzz(func(t *testing.T, s string) { holds(t, s) })
}

// P21.1, R4: Print of what Parse tells is Parse's text, of whatever config's numbers no chip shows.
func TestUnseenNumbers(t *testing.T) {
	for _, steps := range []int{1, 2, 9, 10, 99, api.MaxStep} {
		for _, erases := range []int{0, 1, 9, 10, api.MaxErases} {
			g := least()
			g.Step, g.Erases = steps, erases
			s, e := dump.Print(g, fresh(t, g))
			if c, _, e2, _ := dump.Parse(s); c != g || e != api.OK || e2 != api.OK {
				t.Errorf("%+v: %+v, %v, %v", g, c, e, e2)
			}
		}
	}
}
