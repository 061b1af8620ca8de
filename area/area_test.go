package area_test

import (
	"bytes"
	"crypto/hmac"
	"crypto/sha256"
	"encoding/binary"
	"fmt"
	"math"
	"math/rand"
	"slices"
	"sync"
	"testing"

	"portcullis/api"
	"portcullis/area"
	"portcullis/chip"
	"portcullis/image"
)

// example is the chapter's.
func example() api.Config {
	return api.Config{Cells: 4, Slots: 1, Fuses: 1, Step: 1, Keys: 1, Erases: 3, Area: 1}
}

func bare() api.Config {
	return api.Config{Cells: 4, Slots: 1, Fuses: 1, Step: 1, Keys: 1, Erases: 3}
}

// roomy has areas of several pages.
func roomy() api.Config {
	return api.Config{Cells: 5, Slots: 2, Fuses: 3, Step: 4, Keys: 3, Erases: 4, Area: 3}
}

func unerased() api.Config {
	return api.Config{Cells: 4, Slots: 1, Fuses: 2, Step: 1, Keys: 2, Area: 2}
}

// greatest has areas as great as there may be: of just as many bytes as an image may have.
func greatest() api.Config {
	return api.Config{Cells: 256, Slots: 1, Fuses: 1, Step: 1, Keys: 1, Erases: 65536, Area: 64}
}

func configs() []api.Config {
	return []api.Config{example(), bare(), roomy(), unerased()}
}

func made(t *testing.T, g api.Config) *chip.Chip {
	t.Helper()
	c, e := chip.New(g)
	if e != api.OK {
		t.Fatalf("New(%+v): %v", g, e)
	}
	return c
}

func laid(t *testing.T, g api.Config, s api.Chip) *chip.Chip {
	t.Helper()
	c, e := chip.Lay(g, s)
	if e != api.OK {
		t.Fatalf("Lay(%+v): %v", g, e)
	}
	return c
}

// off lets the power go, at an act that leaves nothing.
func off(t *testing.T, c *chip.Chip) {
	t.Helper()
	c.Cut(0, nil)
	if e := c.Blow(0); e != api.ErrPower {
		t.Fatalf("Blow: %v", e)
	}
}

func row(r *rand.Rand, n int) []byte {
	b := make([]byte, n)
	r.Read(b)
	return b
}

func filled(v byte) api.Cell { return api.Cell(bytes.Repeat([]byte{v}, 32)) }

// signed is an image by chapter 11's words, with the library's HMAC.
func signed(version uint32, payload []byte) []byte {
	b := []byte{0x50, 0x43, 0x55, 0x4c, 0x01, 0x03, 0x05, 0x00}
	b = binary.LittleEndian.AppendUint32(b, version)
	b = binary.LittleEndian.AppendUint32(b, uint32(len(payload)))
	b = append(b, payload...)
	h := hmac.New(sha256.New, []byte("secret"))
	h.Write(b)
	return h.Sum(b)
}

// sized is an image that has so many bytes in all.
func sized(r *rand.Rand, n int) []byte { return signed(7, row(r, n-48)) }

func same(a, b api.Chip) bool {
	return slices.EqualFunc(a.Pages, b.Pages, slices.Equal) && slices.Equal(a.Erases, b.Erases) && slices.Equal(a.Blown, b.Blown)
}

func short(b []byte) string {
	if len(b) > 40 {
		return fmt.Sprintf("%x.. (%d bytes)", b[:40], len(b))
	}
	return fmt.Sprintf("%x", b)
}

// words tells, by the words of the document alone, what the calls over a chip with power are to answer, and which acts they do. Pages are counted out one by one.
type words struct {
	config api.Config
	holds  api.Chip
}

func of(c *chip.Chip) words { return words{c.Config(), c.State()} }

// pages are the numbers of an area's pages.
func (w words) pages(n int) []int {
	var l []int
	for p := range w.holds.Pages {
		if p >= 2 && p < 2+w.config.Area && n == 0 || p >= 2+w.config.Area && n == 1 {
			l = append(l, p)
		}
	}
	return l
}

func (w words) bytes(n int) []byte {
	var b []byte
	for _, p := range w.pages(n) {
		for _, x := range w.holds.Pages[p] {
			b = append(b, x[:]...)
		}
	}
	return b
}

func (w words) blank(p int) bool {
	return !slices.ContainsFunc(w.holds.Pages[p], func(x api.Cell) bool { return x != filled(0xff) })
}

// image goes through all beginnings of an area's bytes.
func (w words) image(n int) ([]byte, api.Errno) {
	b := w.bytes(n)
	for i := range len(b) + 1 {
		if _, err := image.Parse(b[:i]); err == nil {
			return b[:i], api.OK
		}
	}
	return nil, api.ErrForm
}

func (w words) worn(n int) bool {
	for _, p := range w.pages(n) {
		if !w.blank(p) && w.holds.Erases[p] >= w.config.Erases {
			return true
		}
	}
	return false
}

func (w words) refused(n int, b []byte) api.Errno {
	switch {
	case n != 0 && n != 1:
		return api.ErrRange
	case len(b) == 0:
		return api.ErrArg
	case len(b) > len(w.bytes(n)):
		return api.ErrBytes
	case w.worn(n):
		return api.ErrWorn
	}
	return api.OK
}

// act is an Erase of a page, or a Program of one of its cells.
type act struct {
	erase      bool
	page, cell int
	x          api.Cell
}

// acts are those of a Write that isn't refused.
func (w words) acts(n int, b []byte) []act {
	var l, cells []act
	for _, p := range w.pages(n) {
		if !w.blank(p) {
			l = append(l, act{erase: true, page: p})
		}
	}
	full := bytes.Clone(b)
	for len(full)%32 != 0 {
		full = append(full, 0xff)
	}
	for _, p := range w.pages(n) {
		for k := range w.config.Cells {
			if len(full) > 0 {
				cells = append(cells, act{page: p, cell: k, x: api.Cell(full[:32])})
				full = full[32:]
			}
		}
	}
	return append(append(l, cells[1:]...), cells[0])
}

// done is the act done, as far as the mask lets it: each bit is chosen by itself.
func (w words) done(a act, mask []byte) {
	if a.erase {
		w.holds.Erases[a.page]++
	}
	for k := range w.holds.Pages[a.page] {
		if !a.erase && k != a.cell {
			continue
		}
		at := 0
		if a.erase {
			at = 32 * k
		}
		x := &w.holds.Pages[a.page][k]
		for i := range x {
			for bit := range 8 {
				lets := len(mask) > 0 && mask[(at+i)%len(mask)]>>bit&1 == 1
				if lets && a.erase {
					x[i] |= 1 << bit
				} else if lets && a.x[i]>>bit&1 == 0 {
					x[i] &^= 1 << bit
				}
			}
		}
	}
}

var ones = []byte{0xff}

// written is a chip behind those acts.
func (w words) written(l []act) words {
	for _, a := range l {
		w.done(a, ones)
	}
	return w
}

// asks holds what Read and Worn tell of an area against the words, and that they do nothing.
func asks(t *testing.T, c *chip.Chip, n int) {
	t.Helper()
	w, acts := of(c), c.Acts()
	want, we := w.image(n)
	if b, e := area.Read(c, n); !bytes.Equal(b, want) || e != we {
		t.Fatalf("Read(%d): %s %v, want %s %v", n, short(b), e, short(want), we)
	}
	if is, e := area.Worn(c, n); is != w.worn(n) || e != api.OK {
		t.Fatalf("Worn(%d): %v %v, want %v", n, is, e, w.worn(n))
	}
	if !same(c.State(), w.holds) || c.Acts() != acts {
		t.Fatalf("Read or Worn of %d did something", n)
	}
}

// writes holds a Write against the words: its answer, how many acts it does, and the whole chip behind it.
func writes(t *testing.T, c *chip.Chip, n int, b []byte) api.Errno {
	t.Helper()
	w, acts := of(c), c.Acts()
	want := w.refused(n, b)
	if want == api.OK {
		l := w.acts(n, b)
		w, acts = w.written(l), acts+len(l)
	}
	if e := area.Write(c, n, b); e != want {
		t.Fatalf("Write(%d, %s): %v, want %v", n, short(b), e, want)
	}
	if c.Acts() != acts || !same(c.State(), w.holds) {
		t.Fatalf("Write(%d, %s): %d acts, want %d; %v, want %v", n, short(b), c.Acts(), acts, c.State(), w.holds)
	}
	return want
}

func tells(t *testing.T, c *chip.Chip, n int, want []byte) {
	t.Helper()
	if b, e := area.Read(c, n); !bytes.Equal(b, want) || e != api.OK {
		t.Fatalf("Read(%d): %s %v, want %s", n, short(b), e, short(want))
	}
}

func formless(t *testing.T, c *chip.Chip, n int) {
	t.Helper()
	if b, e := area.Read(c, n); len(b) != 0 || e != api.ErrForm {
		t.Fatalf("Read(%d): %s %v", n, short(b), e)
	}
}

// P14.1: the chapter's examples 1 and 3, and a chip's cells behind each Write, written out.
func TestExamples(t *testing.T) {
	c := made(t, example())
	if n := area.Size(example()); n != 128 {
		t.Errorf("Size: %d", n)
	}
	formless(t, c, 0)
	one, blank := filled(0xff), filled(0xff)
	one[0] = 0x21
	first := api.Cell(bytes.Repeat([]byte{0x12}, 32))
	for _, x := range []struct {
		n     int
		b     []byte
		want  api.Errno
		acts  int
		cells []api.Cell // of the area 0 behind it
	}{
		{0, append(bytes.Repeat([]byte{0x12}, 32), 0x21), api.OK, 2, []api.Cell{first, one, blank, blank}},
		{0, []byte{0x21}, api.OK, 4, []api.Cell{one, blank, blank, blank}},
		{0, nil, api.ErrArg, 4, []api.Cell{one, blank, blank, blank}},
		{0, []byte{}, api.ErrArg, 4, []api.Cell{one, blank, blank, blank}},
		{0, make([]byte, 129), api.ErrBytes, 4, []api.Cell{one, blank, blank, blank}},
		{2, []byte{1}, api.ErrRange, 4, []api.Cell{one, blank, blank, blank}},
	} {
		if e := area.Write(c, x.n, x.b); e != x.want || c.Acts() != x.acts {
			t.Errorf("Write(%d, %x): %v, %d acts", x.n, x.b, e, c.Acts())
		}
		if s := c.State(); !slices.Equal(s.Pages[2], x.cells) {
			t.Errorf("Write(%d, %x): %x", x.n, x.b, s.Pages[2])
		}
	}
	d := made(t, bare())
	if n := area.Size(bare()); n != 0 {
		t.Errorf("Size with Area 0: %d", n)
	}
	for n := range 2 {
		if e := area.Write(d, n, []byte{1}); e != api.ErrBytes {
			t.Errorf("Write with Area 0: %v", e)
		}
		formless(t, d, n)
		if is, e := area.Worn(d, n); is || e != api.OK {
			t.Errorf("Worn with Area 0: %v %v", is, e)
		}
	}
}

// P14.1: the example of two acts, told apart by a cut at each: the cell 1 comes ahead of the cell 0.
func TestExampleOrder(t *testing.T) {
	b := bytes.Repeat([]byte{0}, 33)
	c := made(t, example())
	c.Cut(0, ones)
	if e := area.Write(c, 0, b); e != api.ErrPower || c.Acts() != 1 {
		t.Errorf("%v, %d acts", e, c.Acts())
	}
	page := c.State().Pages[2]
	if page[0] != filled(0xff) || page[1][0] != 0 || page[1][1] != 0xff {
		t.Errorf("%x", page)
	}
}

// P14.2: the chapter's example 2: an image of 48 bytes.
func TestExampleOfAnImage(t *testing.T) {
	c := made(t, example())
	b := signed(3, nil)
	if len(b) != 48 || writes(t, c, 0, b) != api.OK {
		t.Fatalf("%x", b)
	}
	tells(t, c, 0, b)
	formless(t, c, 1)
	if got := of(c).bytes(0); !bytes.Equal(got[:48], b) || !bytes.Equal(got[48:], bytes.Repeat(ones, 80)) {
		t.Errorf("%x", got)
	}
}

// P14.1: Size of configs that may be.
func TestSize(t *testing.T) {
	for _, x := range []struct{ cells, area, want int }{
		{4, 0, 0}, {4, 1, 128}, {4, 2, 256}, {5, 1, 160}, {5, 3, 480}, {255, 63, 514080},
		{4, 64, 8192}, {256, 0, 0}, {256, 1, 8192}, {256, 63, 516096}, {256, 64, 524288},
	} {
		g := example()
		g.Cells, g.Area = x.cells, x.area
		if n := area.Size(g); n != x.want {
			t.Errorf("%+v: %d", g, n)
		}
		g.Slots, g.Fuses, g.Step, g.Keys, g.Erases = 1, 64, 65536, 64, 65536
		if n := area.Size(g); n != x.want {
			t.Errorf("%+v: %d", g, n)
		}
	}
	if n := area.Size(greatest()); n != api.MaxImage {
		t.Errorf("the greatest: %d", n)
	}
}

// P14.1: Size of configs that may not be: 0.
func TestSizeMayNotBe(t *testing.T) {
	for name, spoil := range map[string]func(*api.Config){
		"all zero":           func(g *api.Config) { *g = api.Config{} },
		"Area below 0":       func(g *api.Config) { g.Area = -1 },
		"Area above":         func(g *api.Config) { g.Area = 65 },
		"Area least":         func(g *api.Config) { g.Area = math.MinInt },
		"Area greatest":      func(g *api.Config) { g.Area = math.MaxInt },
		"Cells too few":      func(g *api.Config) { g.Cells = 3 },
		"Cells for slots":    func(g *api.Config) { g.Slots = 2 },
		"Cells above":        func(g *api.Config) { g.Cells = 257 },
		"Cells greatest":     func(g *api.Config) { g.Cells = math.MaxInt },
		"Cells, Area below":  func(g *api.Config) { g.Cells, g.Area = -4, -1 },
		"Slots 0":            func(g *api.Config) { g.Slots = 0 },
		"Slots above":        func(g *api.Config) { g.Slots, g.Cells = 9, 256 },
		"Fuses 0":            func(g *api.Config) { g.Fuses = 0 },
		"Fuses above":        func(g *api.Config) { g.Fuses = 65 },
		"Step 0":             func(g *api.Config) { g.Step = 0 },
		"Step above":         func(g *api.Config) { g.Step = 65537 },
		"Keys 0":             func(g *api.Config) { g.Keys = 0 },
		"Keys above":         func(g *api.Config) { g.Keys = 65 },
		"Erases below 0":     func(g *api.Config) { g.Erases = -1 },
		"Erases above":       func(g *api.Config) { g.Erases = 65537 },
		"Slots so great":     func(g *api.Config) { g.Slots = math.MaxInt },
		"everything so low":  func(g *api.Config) { *g = api.Config{Cells: math.MinInt, Area: math.MinInt} },
		"everything so high": func(g *api.Config) { *g = api.Config{Cells: math.MaxInt, Slots: math.MaxInt, Area: math.MaxInt} },
	} {
		g := example()
		spoil(&g)
		if n := area.Size(g); n != 0 {
			t.Errorf("%s: %d", name, n)
		}
	}
}

// beyond are areas that are none: the next ones, the greatest and least whole numbers, and such as times Area wrap round to a page that is there.
func beyond() []int {
	return []int{-1, 2, 3, -2, 64, 1 << 58, 1 << 62, 1<<62 + 1, math.MaxInt, math.MinInt, math.MinInt + 1}
}

// worn is a chip whose areas may not be written any more.
func worn(t *testing.T, g api.Config) *chip.Chip {
	t.Helper()
	s := made(t, g).State()
	for p := range s.Pages {
		s.Pages[p][0] = filled(0x5a)
		s.Erases[p] = g.Erases
	}
	return laid(t, g, s)
}

// R2: without power each call tells that first, whatever else is wrong, and does nothing.
func TestPower(t *testing.T) {
	for _, g := range configs() {
		for _, c := range []*chip.Chip{made(t, g), worn(t, g)} {
			off(t, c)
			s, acts := c.State(), c.Acts()
			for _, n := range append(beyond(), 0, 1) {
				if b, e := area.Read(c, n); len(b) != 0 || e != api.ErrPower {
					t.Errorf("Read(%d): %x %v", n, b, e)
				}
				if is, e := area.Worn(c, n); is || e != api.ErrPower {
					t.Errorf("Worn(%d): %v %v", n, is, e)
				}
				for _, size := range []int{0, 1, area.Size(g), area.Size(g) + 1} {
					if e := area.Write(c, n, make([]byte, size)); e != api.ErrPower {
						t.Errorf("Write(%d, %d bytes): %v", n, size, e)
					}
				}
			}
			if !c.Out() || c.Acts() != acts || !same(c.State(), s) {
				t.Error("something was done without power")
			}
		}
	}
}

// P14.1: an area that is none is told ahead of all but the power, and nothing is done.
func TestRange(t *testing.T) {
	for _, g := range configs() {
		for _, c := range []*chip.Chip{made(t, g), worn(t, g)} {
			c.Cut(0, ones)
			s := c.State()
			for _, n := range beyond() {
				if b, e := area.Read(c, n); len(b) != 0 || e != api.ErrRange {
					t.Errorf("Read(%d): %x %v", n, b, e)
				}
				if is, e := area.Worn(c, n); is || e != api.ErrRange {
					t.Errorf("Worn(%d): %v %v", n, is, e)
				}
				for _, size := range []int{0, 1, area.Size(g), area.Size(g) + 1} {
					if e := area.Write(c, n, make([]byte, size)); e != api.ErrRange {
						t.Errorf("Write(%d, %d bytes): %v", n, size, e)
					}
				}
			}
			if c.Out() || c.Acts() != 0 || !same(c.State(), s) {
				t.Error("something was done")
			}
		}
	}
}

// P14.1: the errors of a Write in their order, on an area that is worn and on one that is not.
func TestOrderOfErrors(t *testing.T) {
	for _, g := range []api.Config{example(), roomy(), unerased()} {
		size := area.Size(g)
		for n := range 2 {
			for _, x := range []struct {
				size        int
				fresh, worn api.Errno
			}{
				{0, api.ErrArg, api.ErrArg},
				{1, api.OK, api.ErrWorn},
				{size, api.OK, api.ErrWorn},
				{size + 1, api.ErrBytes, api.ErrBytes},
				{size + 32, api.ErrBytes, api.ErrBytes},
				{2*size + 1, api.ErrBytes, api.ErrBytes},
				{api.MaxImage + 1, api.ErrBytes, api.ErrBytes},
			} {
				b := make([]byte, x.size)
				if e := writes(t, made(t, g), n, b); e != x.fresh {
					t.Errorf("%d bytes: %v, want %v", x.size, e, x.fresh)
				}
				if e := writes(t, worn(t, g), n, b); e != x.worn {
					t.Errorf("%d bytes, worn: %v, want %v", x.size, e, x.worn)
				}
			}
		}
	}
}

// P14.1, P14.2: Write of each number of bytes, over a blank area and over a full one, in both areas.
func TestLengths(t *testing.T) {
	r := rand.New(rand.NewSource(1))
	for _, g := range configs() {
		size := area.Size(g)
		for n := range 2 {
			for k := range size + 40 {
				b := row(r, k)
				c := made(t, g)
				if e := writes(t, c, n, b); e != api.OK {
					continue
				}
				got := of(c).bytes(n)
				if !bytes.Equal(got[:k], b) || !bytes.Equal(got[k:], bytes.Repeat(ones, size-k)) {
					t.Fatalf("%d bytes: %x", k, got)
				}
				if want := (k + 31) / 32; c.Acts() != want {
					t.Fatalf("%d bytes: %d acts, want %d", k, c.Acts(), want)
				}
				writes(t, c, n, row(r, 1+r.Intn(size)))
				asks(t, c, n)
				asks(t, c, 1-n)
			}
		}
	}
}

// P14.1: bytes that are ff are programmed all the same, and what was there gives way.
func TestWriteOfBlank(t *testing.T) {
	g := roomy()
	for _, k := range []int{1, 32, 33, 320, 480} {
		c := made(t, g)
		b := bytes.Repeat(ones, k)
		if writes(t, c, 1, b) != api.OK || c.Acts() != (k+31)/32 {
			t.Errorf("%d bytes: %d acts", k, c.Acts())
		}
		if is, e := area.Worn(c, 1); is || e != api.OK {
			t.Errorf("Worn: %v %v", is, e)
		}
	}
}

// wear is a chip of which one page was erased so often, and holds a cell at that place (none, if it is below 0).
func wear(t *testing.T, g api.Config, page, erases, at int, x api.Cell) *chip.Chip {
	t.Helper()
	s := made(t, g).State()
	s.Erases[page] = erases
	if at >= 0 {
		s.Pages[page][at] = x
	}
	return laid(t, g, s)
}

// P14.1: a page that may not be erased any more makes its area worn, just if it has a cell that is not blank; whichever page it is, whichever cell, whichever bit. Those of the other area and the log matter not.
func TestWear(t *testing.T) {
	last := filled(0xff)
	last[31] = 0x7f
	first := filled(0xff)
	first[0] = 0xfe
	for _, g := range []api.Config{example(), roomy(), unerased()} {
		for page := range 2 + 2*g.Area {
			for _, erases := range []int{0, g.Erases - 1, g.Erases, g.Erases + 1, math.MaxInt} {
				for at := -1; at < g.Cells; at++ {
					for _, x := range []api.Cell{first, last, {}, filled(0xff)} {
						c := wear(t, g, page, max(erases, 0), at, x)
						for n := range 2 {
							mine := page >= 2 && (page-2)/g.Area == n
							want := mine && at >= 0 && x != filled(0xff) && max(erases, 0) >= g.Erases
							wearsOut(t, c, n, want)
						}
					}
				}
			}
		}
	}
}

// wearsOut holds Worn, and Write of one byte and of the whole area, against what is told.
func wearsOut(t *testing.T, c *chip.Chip, n int, want bool) {
	t.Helper()
	if is, e := area.Worn(c, n); is != want || e != api.OK {
		t.Fatalf("Worn(%d): %v %v, want %v", n, is, e, want)
	}
	e := api.OK
	if want {
		e = api.ErrWorn
	}
	for _, size := range []int{1, area.Size(c.Config())} {
		if got := writes(t, c.Copy(), n, make([]byte, size)); got != e {
			t.Fatalf("Write(%d): %v, want %v", n, got, e)
		}
	}
}

// P14.1: an area is written as often as its pages may be erased, and once more: then it is worn, and what lies there stays. The other area goes on.
func TestWornOut(t *testing.T) {
	r := rand.New(rand.NewSource(2))
	for _, g := range []api.Config{example(), roomy(), unerased()} {
		c := made(t, g)
		for range g.Erases + 1 {
			wearsOut(t, c, 0, false)
			writes(t, c, 0, sized(r, 100))
		}
		wearsOut(t, c, 0, true)
		wearsOut(t, c, 1, false)
		b, e := area.Read(c, 0)
		if e != api.OK {
			t.Fatalf("Read: %v", e)
		}
		for range 3 {
			if e := writes(t, c, 0, sized(r, 100)); e != api.ErrWorn {
				t.Fatalf("Write: %v", e)
			}
			tells(t, c, 0, b)
		}
		if e := writes(t, c, 1, b); e != api.OK {
			t.Fatalf("Write: %v", e)
		}
		tells(t, c, 1, b)
	}
}

// P14.1: a page that is worn, but blank, is written once more; a page that an image did not reach is not erased.
func TestPagesNotReached(t *testing.T) {
	r := rand.New(rand.NewSource(3))
	g := roomy()
	s := made(t, g).State()
	s.Erases = []int{0, 0, 3, 4, 5, 4, 4, 4}
	c := laid(t, g, s)
	b := sized(r, 100) // in the first page alone
	writes(t, c, 0, b)
	writes(t, c, 0, b)
	if got := c.State().Erases; !slices.Equal(got, []int{0, 0, 4, 4, 5, 4, 4, 4}) {
		t.Errorf("erased: %v", got)
	}
	wearsOut(t, c, 0, true)
	writes(t, c, 1, sized(r, 480))
	wearsOut(t, c, 1, true)
}

// held is a chip on whose pages much lies: cells of all kinds, blank ones among them, and pages that are blank.
func held(t *testing.T, r *rand.Rand, g api.Config) *chip.Chip {
	t.Helper()
	s := made(t, g).State()
	for p := range s.Pages {
		s.Erases[p] = r.Intn(g.Erases + 2)
		if r.Intn(3) > 0 {
			s.Erases[p] = 0
		}
		if r.Intn(3) == 0 {
			continue
		}
		for k := range s.Pages[p] {
			switch r.Intn(3) {
			case 0:
				s.Pages[p][k] = api.Cell(row(r, 32))
			case 1:
				s.Pages[p][k][r.Intn(32)] &^= 1 << r.Intn(8)
			}
		}
	}
	for i := range s.Blown {
		s.Blown[i] = r.Intn(2) == 0
	}
	return laid(t, g, s)
}

func masks(r *rand.Rand) [][]byte {
	return [][]byte{nil, {0}, ones, {0x0f}, {0xff, 0x00}, {0x00, 0xff, 0xff}, row(r, 32), row(r, 7), row(r, 200)}
}

// P14.1, P14.3: the acts told one by one: the power goes at each, with masks of nothing, of ones and mixed ones; the chip is just what the acts ahead of it and the part of it leave.
func TestActsOneByOne(t *testing.T) {
	r := rand.New(rand.NewSource(4))
	for _, g := range []api.Config{example(), roomy(), unerased()} {
		for range 12 {
			c := held(t, r, g)
			for n := range 2 {
				b := row(r, 1+r.Intn(area.Size(g)))
				w := of(c)
				if w.refused(n, b) == api.OK {
					cutAtEach(t, r, c, n, b)
				}
			}
		}
	}
}

func cutAtEach(t *testing.T, r *rand.Rand, c *chip.Chip, n int, b []byte) {
	t.Helper()
	l := of(c).acts(n, b)
	for i, a := range l {
		for _, mask := range masks(r) {
			d := c.Copy()
			d.Cut(i, mask)
			if e := area.Write(d, n, b); e != api.ErrPower || !d.Out() {
				t.Fatalf("a cut at the act %d of %d: %v", i, len(l), e)
			}
			want := of(c).written(l[:i])
			want.done(a, mask)
			if d.Acts() != c.Acts()+i+1 || !same(d.State(), want.holds) {
				t.Fatalf("a cut at the act %d of %d (%+v): %d acts; %v, want %v", i, len(l), a, d.Acts(), d.State(), want.holds)
			}
			d.Restore()
			asks(t, d, 0)
			asks(t, d, 1)
		}
	}
	d := c.Copy()
	d.Cut(len(l), ones)
	if e := area.Write(d, n, b); e != api.OK || d.Acts() != c.Acts()+len(l) || d.Out() {
		t.Fatalf("a cut behind the %d acts: %v, %d acts", len(l), e, d.Acts())
	}
}

// P14.3: of a Write of several pages and cells: the pages are erased rising; then the cells come rising, but for the first one, which comes last; none that b does not fill. Told by the chip alone, each act by what has changed since the one ahead of it.
func TestOrderOfActs(t *testing.T) {
	g := roomy()
	for n := range 2 {
		s := made(t, g).State()
		at := 2 + 3*n
		s.Pages[at][4], s.Pages[at+2][0] = api.Cell{}, api.Cell{} // the page between them is blank
		c := laid(t, g, s)
		b := bytes.Repeat([]byte{0x11}, 7*32+1)
		var got []string
		before := c.State()
		for i := range 11 {
			d := c.Copy()
			d.Cut(i, ones)
			area.Write(d, n, b)
			got = append(got, changed(before, d.State()))
			before = d.State()
		}
		want := []string{
			fmt.Sprintf("erased %d", at), fmt.Sprintf("erased %d", at+2),
			fmt.Sprintf("cell %d %d", at, 1), fmt.Sprintf("cell %d %d", at, 2), fmt.Sprintf("cell %d %d", at, 3), fmt.Sprintf("cell %d %d", at, 4),
			fmt.Sprintf("cell %d %d", at+1, 0), fmt.Sprintf("cell %d %d", at+1, 1), fmt.Sprintf("cell %d %d", at+1, 2),
			fmt.Sprintf("cell %d %d", at, 0), "",
		}
		if !slices.Equal(got, want) {
			t.Errorf("%q, want %q", got, want)
		}
	}
}

// changed tells the page that was erased, or else the cells that are others.
func changed(a, b api.Chip) string {
	for p := range a.Pages {
		if a.Erases[p] != b.Erases[p] {
			return fmt.Sprintf("erased %d", p)
		}
	}
	text := ""
	for p := range a.Pages {
		for k := range a.Pages[p] {
			if a.Pages[p][k] != b.Pages[p][k] {
				text += fmt.Sprintf("cell %d %d", p, k)
			}
		}
	}
	return text
}

// P14.3: at no cut that comes ahead of the last act is a bit of the first cell programmed.
func TestFirstCellLast(t *testing.T) {
	g := roomy()
	b := make([]byte, 480)
	for i := range 14 {
		c := made(t, g)
		c.Cut(i, ones)
		if e := area.Write(c, 1, b); e != api.ErrPower {
			t.Fatalf("%v", e)
		}
		c.Restore()
		if x, e := c.Read(5, 0); x != filled(0xff) || e != api.OK {
			t.Fatalf("a cut at the act %d: %x %v", i, x, e)
		}
	}
}

// P14.3, W6: of an image written over another one: while the first page is not erased the old one may be read, then none, and behind the last act the new one. Zeros leave what was ahead of an act, ones what is behind it.
func TestImageOverImage(t *testing.T) {
	r := rand.New(rand.NewSource(5))
	g := roomy()
	old, next := sized(r, 130), sized(r, 450)
	c := made(t, g)
	writes(t, c, 0, old)
	acts := 1 + 15
	for i := range acts {
		for _, mask := range [][]byte{{0}, ones} {
			d := c.Copy()
			d.Cut(i, mask)
			if e := area.Write(d, 0, next); e != api.ErrPower {
				t.Fatalf("%v", e)
			}
			d.Restore()
			switch whole := mask[0] == 0xff; {
			case i == 0 && !whole:
				tells(t, d, 0, old)
			case i == acts-1 && whole:
				tells(t, d, 0, next)
			default:
				formless(t, d, 0)
			}
		}
	}
}

// P14.1, P14.2: once the power is back, a Write behind a cut lays all of it, whatever the cut has left; but that the erase which was cut has counted.
func TestBehindACut(t *testing.T) {
	r := rand.New(rand.NewSource(6))
	for _, g := range []api.Config{example(), roomy(), unerased()} {
		for range 40 {
			c := held(t, r, g)
			n := r.Intn(2)
			b := sized(r, 48+r.Intn(area.Size(g)-47))
			for range 4 {
				if of(c).refused(n, b) != api.OK {
					break
				}
				c.Cut(r.Intn(len(of(c).acts(n, b))), masks(r)[r.Intn(9)])
				if e := area.Write(c, n, b); e != api.ErrPower {
					t.Fatalf("%v", e)
				}
				if e := area.Write(c, n, b); e != api.ErrPower {
					t.Fatalf("without power: %v", e)
				}
				c.Restore()
				asks(t, c, n)
			}
			if writes(t, c, n, b) == api.OK {
				tells(t, c, n, b)
			}
		}
	}
}

// P14.1: a cut erase wears its page out: with the last one spent and a cell left, the area is worn.
func TestLastEraseCut(t *testing.T) {
	for _, x := range []struct {
		mask []byte
		want bool
	}{{nil, true}, {[]byte{0xfe}, true}, {ones, false}} {
		c := wear(t, example(), 2, 2, 3, api.Cell{})
		c.Cut(0, x.mask)
		if e := area.Write(c, 0, []byte{1}); e != api.ErrPower {
			t.Fatalf("%v", e)
		}
		c.Restore()
		wearsOut(t, c, 0, x.want)
	}
}

// put is a chip on whose area these bytes lie, whatever they are.
func put(t *testing.T, g api.Config, n int, b []byte) *chip.Chip {
	t.Helper()
	s := made(t, g).State()
	at := 2 + n*g.Area
	for i, v := range b {
		s.Pages[at+i/32/g.Cells][i/32%g.Cells][i%32] = v
	}
	return laid(t, g, s)
}

// P14.1: Read of an area that holds nothing, an image, and an image with other bytes behind it: ff, zeros, another image, the same one, any bytes.
func TestReadBehindIt(t *testing.T) {
	r := rand.New(rand.NewSource(7))
	g := roomy()
	for n := range 2 {
		formless(t, made(t, g), n)
		for _, size := range []int{48, 49, 63, 64, 65, 95, 96, 97, 159, 160, 161, 200, 320, 447, 448, 479, 480} {
			b := sized(r, size)
			for _, behind := range [][]byte{nil, {0}, make([]byte, 480), bytes.Repeat(ones, 480), row(r, 480), sized(r, 60), b, []byte("PCUL")} {
				all := append(bytes.Clone(b), behind...)
				all = all[:min(len(all), 480)]
				c := put(t, g, n, all)
				tells(t, c, n, b)
				asks(t, c, n)
				formless(t, c, 1-n)
			}
		}
	}
}

// P14.1: an image that does not begin where the area begins is none that Read tells.
func TestReadElsewhere(t *testing.T) {
	r := rand.New(rand.NewSource(8))
	g := roomy()
	b := sized(r, 60)
	for _, ahead := range []int{1, 31, 32, 64, 160, 320, 420} {
		for _, v := range []byte{0, 0xff, 'P'} {
			c := put(t, g, 0, append(bytes.Repeat([]byte{v}, ahead), b...))
			formless(t, c, 0)
			asks(t, c, 0)
		}
	}
	formless(t, put(t, g, 0, b), 1)
	formless(t, put(t, g, 1, b), 0)
	s := made(t, g).State()
	copy(s.Pages[0][0][:], b)
	copy(s.Pages[0][1][:], b[32:])
	c := laid(t, g, s)
	formless(t, c, 0)
	formless(t, c, 1)
}

// P14.1: each bit of an image turned: of the head's form it is none; with another slot, key or version, another payload or tag it is an image yet; with another length it is as long as that says, or none.
func TestReadSpoilt(t *testing.T) {
	r := rand.New(rand.NewSource(9))
	g := roomy()
	b := sized(r, 70)
	for bit := range len(b) * 8 {
		spoilt := bytes.Clone(b)
		spoilt[bit/8] ^= 1 << (bit % 8)
		c := put(t, g, bit%2, spoilt)
		at := bit / 8
		switch n := binary.LittleEndian.Uint32(spoilt[12:]); {
		case at < 5 || at == 7 || spoilt[5] > 7 || spoilt[6] > 63 || n > 480-48:
			formless(t, c, bit%2)
		default:
			whole := append(spoilt, bytes.Repeat(ones, 480)...)
			tells(t, c, bit%2, whole[:48+n])
		}
		asks(t, c, bit%2)
	}
}

// P14.1: an image that says it is as long as the area is told, one that says it is longer isn't, by one byte, by many, by so many that no image has them.
func TestReadLengths(t *testing.T) {
	r := rand.New(rand.NewSource(10))
	for _, g := range []api.Config{example(), roomy(), unerased()} {
		size := area.Size(g)
		b := sized(r, size)
		for _, x := range []struct {
			n    uint32
			want int // 0: none
		}{
			{0, 48}, {1, 49}, {uint32(size) - 49, size - 1}, {uint32(size) - 48, size}, {uint32(size) - 47, 0}, {uint32(size), 0},
			{524240, 0}, {524241, 0}, {1 << 31, 0}, {math.MaxUint32 - 47, 0}, {math.MaxUint32, 0},
		} {
			binary.LittleEndian.PutUint32(b[12:], x.n)
			c := put(t, g, 1, b)
			if x.want == 0 {
				formless(t, c, 1)
			} else {
				tells(t, c, 1, b[:x.want])
			}
			asks(t, c, 1)
		}
	}
}

// P14.1, P14.2: areas as great as there may be: an image of MaxImage bytes, one of a byte less; one byte more is too many.
func TestGreatest(t *testing.T) {
	r := rand.New(rand.NewSource(11))
	c := made(t, greatest())
	for i, size := range []int{api.MaxImage, api.MaxImage - 1, 48} {
		b := sized(r, size)
		n := i % 2
		if e := area.Write(c, n, b); e != api.OK {
			t.Fatalf("%d bytes: %v", size, e)
		}
		tells(t, c, n, b)
		got := of(c).bytes(n)
		if !bytes.Equal(got[:size], b) || bytes.Count(got[size:], ones) != len(got)-size {
			t.Fatalf("%d bytes: %s", size, short(got))
		}
	}
	if want := 16384 + 16384 + 64 + 2; c.Acts() != want {
		t.Errorf("%d acts, want %d", c.Acts(), want)
	}
	if e := area.Write(c, 1, make([]byte, api.MaxImage+1)); e != api.ErrBytes {
		t.Errorf("%v", e)
	}
}

// P14.2: what image.Make makes, written, is read; so is what is written over it, shorter or longer, in both areas by turns.
func TestWrittenIsRead(t *testing.T) {
	r := rand.New(rand.NewSource(12))
	g := roomy()
	g.Erases = 65536
	c := made(t, g)
	for i := range 400 {
		x := api.Image{Slot: r.Intn(8), Key: r.Intn(64), Version: r.Int63n(1 << 32), Payload: row(r, r.Intn(480-47))}
		b, e := image.Make(row(r, r.Intn(40)), x)
		if e != api.OK {
			t.Fatalf("Make: %v", e)
		}
		other, _ := area.Read(c, 1-i%2)
		if e := writes(t, c, i%2, b); e != api.OK {
			t.Fatalf("Write: %v", e)
		}
		tells(t, c, i%2, b)
		if again, _ := area.Read(c, 1-i%2); !bytes.Equal(again, other) {
			t.Fatalf("the other area: %s, was %s", short(again), short(other))
		}
	}
}

// P14.1: b may be any bytes: Read tells then what image.Parse makes of a beginning.
func TestAnyBytes(t *testing.T) {
	r := rand.New(rand.NewSource(13))
	for _, g := range []api.Config{example(), roomy()} {
		g.Erases = 65536
		c := made(t, g)
		for range 400 {
			b := row(r, 1+r.Intn(area.Size(g)))
			if r.Intn(2) == 0 {
				copy(b, sized(r, 48+r.Intn(40)))
			}
			writes(t, c, r.Intn(2), b)
			asks(t, c, 0)
			asks(t, c, 1)
		}
	}
}

// P14.1, P14.2: all calls, over whatever the chip holds; nothing but the area that is written changes.
func TestAnyChips(t *testing.T) {
	r := rand.New(rand.NewSource(14))
	for _, g := range configs() {
		seen := map[api.Errno]int{}
		for range 300 {
			c := held(t, r, g)
			asks(t, c, 0)
			asks(t, c, 1)
			n := r.Intn(4) - 1
			seen[writes(t, c, n, row(r, r.Intn(area.Size(g)+20)))]++
		}
		if seen[api.ErrRange] == 0 || seen[api.ErrBytes] == 0 || g.Area > 0 && (seen[api.OK] == 0 || seen[api.ErrWorn] == 0) {
			t.Errorf("%+v: %v", g, seen)
		}
	}
}

// P14.1: Size, Read, Worn and a Write that is refused do no act, also none at which a cut would wait.
func TestNoActs(t *testing.T) {
	r := rand.New(rand.NewSource(15))
	for _, g := range configs() {
		c := worn(t, g)
		if g.Area > 1 {
			s := c.State()
			b := sized(r, 60)
			copy(s.Pages[2][0][:], b)
			copy(s.Pages[2][1][:], b[32:])
			c = laid(t, g, s)
		}
		s := c.State()
		c.Cut(0, ones)
		for range 3 {
			area.Size(g)
			for n := -1; n < 3; n++ {
				area.Read(c, n)
				area.Worn(c, n)
				for _, size := range []int{0, 1, area.Size(g), area.Size(g) + 1} {
					if e := area.Write(c, n, make([]byte, size)); e == api.OK {
						t.Fatal("Write of a worn area")
					}
				}
			}
		}
		if c.Acts() != 0 || c.Out() || !same(c.State(), s) {
			t.Error("something was done")
		}
		if e := c.Blow(0); e != api.ErrPower {
			t.Errorf("the cut waits no more: %v", e)
		}
	}
}

// room lays bytes into a row with room behind them, and tells both.
func room(b []byte) (in, all []byte) {
	all = append(append([]byte{}, b...), bytes.Repeat([]byte{0xa5}, 70)...)
	return all[:len(b)], all
}

func spoil(b []byte) {
	for i := range b[:cap(b)] {
		b[:cap(b)][i] ^= 0x3c
	}
}

// R3: what Write is handed stays as it was, the room behind it too, and is not kept; and that room is none of its bytes.
func TestBytesUnchanged(t *testing.T) {
	r := rand.New(rand.NewSource(16))
	g := roomy()
	for _, size := range []int{0, 1, 31, 32, 33, 100, 479, 480, 481} {
		for _, cut := range []int{-1, 0, 3} {
			in, all := room(row(r, size))
			was := bytes.Clone(all)
			c := made(t, g)
			c.Cut(cut, []byte{0x0f})
			area.Write(c, 0, in)
			if !bytes.Equal(all, was) {
				t.Fatalf("%d bytes have changed", size)
			}
			s := c.State()
			spoil(all)
			if !same(c.State(), s) {
				t.Fatalf("%d bytes were kept", size)
			}
			c.Restore()
			c.Cut(-1, nil)
			if size > 0 && size <= 480 {
				writes(t, c, 0, was[:size])
			}
		}
	}
}

// R3: what Read tells is its owner's, spare room too: written over, it changes neither the chip nor another answer.
func TestReadApart(t *testing.T) {
	r := rand.New(rand.NewSource(17))
	g := roomy()
	for _, size := range []int{48, 100, 480} {
		b := sized(r, size)
		c := put(t, g, 1, append(bytes.Clone(b), row(r, 480-size)...))
		s := c.State()
		one, _ := area.Read(c, 1)
		two, _ := area.Read(c, 1)
		spoil(one)
		if !bytes.Equal(two, b) || !same(c.State(), s) {
			t.Fatalf("%d bytes: not apart", size)
		}
		tells(t, c, 1, b)
		if e := area.Write(c, 1, two); e != api.OK || !bytes.Equal(two, b) {
			t.Fatalf("Write: %v", e)
		}
	}
}

// R4: what is answered hangs on what the chip holds alone: not on what was asked or written before, on this chip or another one.
func TestOneAnswer(t *testing.T) {
	r := rand.New(rand.NewSource(18))
	g := roomy()
	for range 50 {
		c := held(t, r, g)
		d := laid(t, g, c.State())
		b := row(r, 1+r.Intn(480))
		area.Write(made(t, g), 0, row(r, 100))
		area.Read(c, 0)
		area.Worn(c, 1)
		area.Write(c, 5, b)
		if e, f := area.Write(c, 0, b), area.Write(d, 0, b); e != f || !same(c.State(), d.State()) || c.Acts() != d.Acts() {
			t.Fatalf("%v %v", e, f)
		}
	}
}

// R4: many read one chip, and many write chips of their own, at one time.
func TestManyAtOneTime(t *testing.T) {
	r := rand.New(rand.NewSource(19))
	g := roomy()
	g.Erases = 65536
	b := sized(r, 300)
	c := put(t, g, 0, b)
	var bad [8]bool
	var wg sync.WaitGroup
	for i := range bad {
		wg.Go(func() {
			mine := c.Copy()
			for k := range 50 {
				got, e := area.Read(c, 0)
				is, f := area.Worn(c, 0)
				next := bytes.Repeat([]byte{byte(i), byte(k)}, 20)
				g := area.Write(mine, 0, next)
				held := of(mine).bytes(0)
				bad[i] = bad[i] || !bytes.Equal(got, b) || e != api.OK || is || f != api.OK || g != api.OK || !bytes.Equal(held[:40], next)
			}
		})
	}
	wg.Wait()
	if bad != [8]bool{} {
		t.Errorf("%v", bad)
	}
}

// P14.1: the numbers of the errors, and the limits that this layer leans on.
func TestNumbers(t *testing.T) {
	for _, x := range []struct {
		e    api.Errno
		want int
	}{{api.OK, 0}, {api.ErrArg, 1}, {api.ErrRange, 2}, {api.ErrBytes, 4}, {api.ErrForm, 5}, {api.ErrPower, 8}, {api.ErrWorn, 9}} {
		if int(x.e) != x.want {
			t.Errorf("%v, want %d", x.e, x.want)
		}
	}
	if api.MaxArea != 64 || api.MaxCells != 256 || api.MaxImage != 524288 || len(api.Cell{}) != 32 {
		t.Error("a limit")
	}
}
