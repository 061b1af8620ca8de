package store_test

import (
	"bytes"
	"encoding/binary"
	"hash/crc32"
	"math"
	"math/rand"
	"slices"
	"sync"
	"testing"

	"portcullis/api"
	"portcullis/chip"
	"portcullis/store"
)

const most = int64(1) << 62

// small is the chapter's.
func small() api.Config {
	return api.Config{Cells: 8, Slots: 1, Fuses: 2, Step: 3, Keys: 4}
}

func least() api.Config {
	return api.Config{Cells: 4, Slots: 1, Fuses: 1, Step: 1, Keys: 1}
}

// roomy has areas, several slots and fuses, and erases.
func roomy() api.Config {
	return api.Config{Cells: 8, Slots: 3, Fuses: 4, Step: 5, Keys: 3, Erases: 4, Area: 1}
}

// tight has as many slots, and as few cells for them, as there may be.
func tight() api.Config {
	return api.Config{Cells: api.MaxSlots + 3, Slots: api.MaxSlots, Fuses: 2, Step: 1, Keys: 2, Erases: 3}
}

func greatest() api.Config {
	return api.Config{Cells: api.MaxCells, Slots: api.MaxSlots, Fuses: api.MaxFuses, Step: api.MaxStep, Keys: api.MaxKeys, Erases: api.MaxErases, Area: 1}
}

func configs() []api.Config {
	return []api.Config{small(), least(), roomy(), tight(), greatest()}
}

func made(t *testing.T, g api.Config) (*chip.Chip, *store.Store) {
	t.Helper()
	c, e := chip.New(g)
	if e != api.OK {
		t.Fatalf("New(%+v): %v", g, e)
	}
	return c, mounted(t, c)
}

func mounted(t *testing.T, c *chip.Chip) *store.Store {
	t.Helper()
	s, e := store.Mount(c)
	if s == nil || e != api.OK {
		t.Fatalf("Mount: %v %v", s, e)
	}
	return s
}

// laid is what somebody else has laid: the cells of the log's pages, how often each was erased, and the fuses that are blown.
type laid struct {
	pages  [2][]api.Cell
	erases [2]int
	blown  []int
}

func (x laid) on(t *testing.T, g api.Config) (*chip.Chip, *store.Store) {
	t.Helper()
	c, _ := made(t, g)
	s := c.State()
	for p := range s.Pages[2:] {
		s.Pages[2+p][0], s.Pages[2+p][1] = head(most), value(0, most)
	}
	for p := range 2 {
		copy(s.Pages[p], x.pages[p])
		s.Erases[p] = x.erases[p]
	}
	for _, i := range x.blown {
		s.Blown[i] = true
	}
	c, e := chip.Lay(g, s)
	if e != api.OK {
		t.Fatalf("Lay(%+v): %v", g, e)
	}
	return c, mounted(t, c)
}

// numbered is a chip whose log holds that number of a slot (nothing, if it is 0), and of whose row for it these fuses are blown.
func numbered(t *testing.T, g api.Config, slot int, n int64, fuses ...int) (*chip.Chip, *store.Store) {
	t.Helper()
	x := laid{}
	if n > 0 {
		x.pages[0] = []api.Cell{head(1), value(slot, n)}
	}
	for _, i := range fuses {
		x.blown = append(x.blown, slot*g.Fuses+i)
	}
	return x.on(t, g)
}

func all(v byte) api.Cell { return api.Cell(bytes.Repeat([]byte{v}, 32)) }

// summed lays twelve bytes, their sum as the library reckons it, and the complement of all of them into a cell.
func summed(front []byte) api.Cell {
	var c api.Cell
	b := binary.LittleEndian.AppendUint32(slices.Clone(front), crc32.ChecksumIEEE(front))
	for i, x := range b {
		c[i], c[16+i] = x, 255-x
	}
	return c
}

func front(kind, slot byte, n uint64) []byte {
	return binary.LittleEndian.AppendUint64([]byte{kind, slot, 0, 0}, n)
}

func head(n int64) api.Cell { return summed(front(1, 0, uint64(n))) }

func value(slot int, n int64) api.Cell { return summed(front(2, byte(slot), uint64(n))) }

func turned(c api.Cell, bit int) api.Cell {
	c[bit/8] ^= 1 << (bit % 8)
	return c
}

func number(c api.Cell) int64 { return int64(binary.LittleEndian.Uint64(c[4:12])) }

func isHead(c api.Cell) bool {
	return 1 <= number(c) && number(c) <= most && c == head(number(c))
}

func isValue(c api.Cell) bool {
	return 1 <= number(c) && number(c) <= most && c[1] <= 8 && c == value(int(c[1]), number(c))
}

// full is a page with that head whose other cells are values of the slot 0, rising from 1 on, so many of its last cells being blank.
func full(g api.Config, generation int64, blank int) []api.Cell {
	cells := []api.Cell{head(generation)}
	for i := 1; i < g.Cells-blank; i++ {
		cells = append(cells, value(0, 1+int64(i)/int64(g.Cells-blank-1)))
	}
	return cells
}

func same(a, b api.Chip) bool {
	return slices.EqualFunc(a.Pages, b.Pages, slices.Equal) && slices.Equal(a.Erases, b.Erases) && slices.Equal(a.Blown, b.Blown)
}

// words tells, by the words of the document alone, what a store over a chip with power is to answer. Each word is gone through by itself.
type words struct {
	config api.Config
	holds  api.Chip
}

func of(c *chip.Chip) words { return words{c.Config(), c.State()} }

func (w words) generation(p int) int64 {
	if c := w.holds.Pages[p][0]; isHead(c) {
		return number(c)
	}
	return 0
}

func (w words) present() int {
	for p := range 2 {
		mine, other := w.generation(p), w.generation(1-p)
		if mine > 0 && (other == 0 || other < mine || other == mine && p == 0) {
			return p
		}
	}
	return -1
}

// number is the log's of a slot.
func (w words) number(slot int) int64 {
	var n int64
	if p := w.present(); p >= 0 {
		for _, c := range w.holds.Pages[p][1:] {
			if isValue(c) && int(c[1]) == slot {
				n = max(n, number(c))
			}
		}
	}
	return n
}

func (w words) free() int {
	free := 0
	if p := w.present(); p >= 0 {
		for _, c := range slices.Backward(w.holds.Pages[p]) {
			if c != all(0xff) {
				break
			}
			free++
		}
	}
	return free
}

func (w words) target() int {
	if w.present() == 0 {
		return 1
	}
	return 0
}

func (w words) used(p int) bool {
	return slices.ContainsFunc(w.holds.Pages[p], func(c api.Cell) bool { return c != all(0xff) })
}

func (w words) worn() bool {
	if p := w.present(); p >= 0 && w.generation(p) == most {
		return true
	}
	return w.used(w.target()) && w.holds.Erases[w.target()] >= w.config.Erases
}

// row is where a slot's fuses begin, and where they end.
func (w words) row(slot int) (int, int) {
	return slot * w.config.Fuses, (slot + 1) * w.config.Fuses
}

func (w words) blown(slot int) int {
	n := 0
	for from, to := w.row(slot); from < to; from++ {
		if w.holds.Blown[from] {
			n++
		}
	}
	return n
}

func (w words) key(k int) int { return w.config.Slots*w.config.Fuses + k }

func (w words) last() int64 { return int64(w.config.Step*w.config.Fuses + w.config.Step - 1) }

func (w words) value(slot int) int64 {
	n := int64(w.config.Step * w.blown(slot))
	if m := w.number(slot); m > n {
		n = m
	}
	return n
}

func (w words) isSlot(slot int) bool { return slot >= 0 && slot <= w.config.Slots-1 }

func (w words) isKey(k int) bool { return k >= 0 && k <= w.config.Keys-1 }

// act is an erase of a page, a blow of a fuse, or a program of a cell.
type act struct {
	kind string
	n    int
	cell int
	x    api.Cell
}

func (a act) do(c *chip.Chip) api.Errno {
	switch a.kind {
	case "erase":
		return c.Erase(a.n)
	case "blow":
		return c.Blow(a.n)
	}
	return c.Program(a.n, a.cell, a.x)
}

// lay is what comes of a number that is laid in the log.
func (w words) lay(slot int, n int64) (api.Errno, []act) {
	if free := w.free(); free > 0 {
		return api.OK, []act{{n: w.present(), cell: w.config.Cells - free, x: value(slot, n)}}
	}
	if w.worn() {
		return api.ErrWorn, nil
	}
	return api.OK, w.turn(slot, n)
}

func (w words) turn(slot int, n int64) []act {
	var acts []act
	to := w.target()
	if w.used(to) {
		acts = append(acts, act{kind: "erase", n: to})
	}
	next := 1
	for s := range w.config.Slots + 1 {
		m := w.number(s)
		if s == slot {
			m = n
		}
		if m > 0 {
			acts = append(acts, act{n: to, cell: next, x: value(s, m)})
			next++
		}
	}
	generation := int64(1)
	if p := w.present(); p >= 0 {
		generation = w.generation(p) + 1
	}
	return append(acts, act{n: to, x: head(generation)})
}

func (w words) bumpTo(slot int, v int64) (api.Errno, []act) {
	switch {
	case !w.isSlot(slot) || v < 0:
		return api.ErrRange, nil
	case v <= w.value(slot):
		return api.OK, nil
	case v > w.last():
		return api.ErrSaturated, nil
	}
	e, acts := w.lay(slot, v)
	if e != api.OK {
		return e, nil
	}
	missing := v/int64(w.config.Step) - int64(w.blown(slot))
	for from, to := w.row(slot); from < to; from++ {
		if missing > 0 && !w.holds.Blown[from] {
			acts = append(acts, act{kind: "blow", n: from})
			missing--
		}
	}
	return api.OK, acts
}

func (w words) revoke(k int) (api.Errno, []act) {
	switch {
	case !w.isKey(k):
		return api.ErrRange, nil
	case w.holds.Blown[w.key(k)]:
		return api.OK, nil
	}
	return api.OK, []act{{kind: "blow", n: w.key(k)}}
}

func (w words) activate(n int64) (api.Errno, []act) {
	if n <= w.number(w.config.Slots) || n > most {
		return api.ErrRange, nil
	}
	return w.lay(w.config.Slots, n)
}

// op is a call that may do acts: its kind, a slot or a key, and a value.
type op struct {
	kind string
	n    int
	v    int64
}

func (o op) call(s *store.Store) (int64, api.Errno) {
	switch o.kind {
	case "bump":
		return s.Bump(o.n)
	case "bumpTo":
		return 0, s.BumpTo(o.n, o.v)
	case "revoke":
		return 0, s.Revoke(o.n)
	}
	return 0, s.Activate(o.v)
}

// by is what the words say of it: its value, its error, and its acts.
func (o op) by(w words) (int64, api.Errno, []act) {
	var v int64
	var e api.Errno
	var acts []act
	switch o.kind {
	case "bump":
		if !w.isSlot(o.n) {
			return 0, api.ErrRange, nil
		}
		v = w.value(o.n) + 1
		e, acts = w.bumpTo(o.n, v)
	case "bumpTo":
		e, acts = w.bumpTo(o.n, o.v)
	case "revoke":
		e, acts = w.revoke(o.n)
	default:
		e, acts = w.activate(o.v)
	}
	return v, e, acts
}

// some are numbers that are no slots and no keys of any store.
func some() []int {
	return []int{math.MinInt, math.MinInt + 1, -1 << 32, -9, -2, -1, 65, 255, 256, 1 << 32, 1<<32 + 1, 1 << 58, 1 << 62, 1<<63 - 64, math.MaxInt - 1, math.MaxInt}
}

// told makes sure that all calls that do no act answer by the words, over a chip with power.
func told(t *testing.T, what string, c *chip.Chip, s *store.Store) {
	t.Helper()
	w, acts := of(c), c.Acts()
	if n := s.Last(); n != w.last() {
		t.Fatalf("%s: Last: %d, want %d", what, n, w.last())
	}
	for slot := range w.config.Slots {
		if n, e := s.Read(slot); n != w.value(slot) || e != api.OK {
			t.Fatalf("%s: Read(%d): %d %v, want %d", what, slot, n, e, w.value(slot))
		}
	}
	for k := range w.config.Keys {
		if is, e := s.Revoked(k); is != w.holds.Blown[w.key(k)] || e != api.OK {
			t.Fatalf("%s: Revoked(%d): %v %v", what, k, is, e)
		}
	}
	if n, e := s.Active(); n != w.number(w.config.Slots) || e != api.OK {
		t.Fatalf("%s: Active: %d %v, want %d", what, n, e, w.number(w.config.Slots))
	}
	for _, i := range append(some(), w.config.Slots, w.config.Slots+1) {
		if n, e := s.Read(i); n != 0 || e != api.ErrRange {
			t.Fatalf("%s: Read(%d): %d %v, want 0 and ErrRange", what, i, n, e)
		}
	}
	for _, i := range append(some(), w.config.Keys, w.config.Keys+1) {
		if is, e := s.Revoked(i); is || e != api.ErrRange {
			t.Fatalf("%s: Revoked(%d): %v %v, want no and ErrRange", what, i, is, e)
		}
	}
	if c.Out() || c.Acts() != acts || !same(c.State(), w.holds) {
		t.Fatalf("%s: a call that does no act has changed the chip", what)
	}
}

// did does a call that may do acts, and makes sure that it answers by the words, and does just their acts, one behind the other, till the power goes, if a cut waits for one of them.
func did(t *testing.T, what string, c *chip.Chip, s *store.Store, o op) (int64, api.Errno) {
	t.Helper()
	d := c.Copy()
	v, want, acts := o.by(of(c))
	for _, a := range acts {
		if want == api.OK {
			want = a.do(d)
		}
	}
	if want != api.OK {
		v = 0
	}
	got, e := o.call(s)
	if got != v || e != want {
		t.Fatalf("%s: %+v: %d %v, want %d %v", what, o, got, e, v, want)
	}
	if c.Acts() != d.Acts() || c.Out() != d.Out() || c.Config() != d.Config() || !same(c.State(), d.State()) {
		t.Fatalf("%s: %+v: not the acts that are said: %d of them, want %d", what, o, c.Acts(), d.Acts())
	}
	if !c.Out() {
		told(t, what, c, s)
	}
	return got, e
}

// answers does a call, and makes sure of its error, and of how many acts it does.
func answers(t *testing.T, c *chip.Chip, s *store.Store, o op, want api.Errno, acts int) {
	t.Helper()
	was := c.Acts()
	if _, e := did(t, "a call", c, s, o); e != want || c.Acts()-was != acts {
		t.Fatalf("%+v: %v with %d acts, want %v with %d", o, e, c.Acts()-was, want, acts)
	}
}

func bumped(t *testing.T, c *chip.Chip, s *store.Store, slot int, want int64, acts int) {
	t.Helper()
	was := c.Acts()
	if v, e := did(t, "a bump", c, s, op{"bump", slot, 0}); v != want || e != api.OK || c.Acts()-was != acts {
		t.Fatalf("Bump(%d): %d %v with %d acts, want %d with %d", slot, v, e, c.Acts()-was, want, acts)
	}
}

func reads(t *testing.T, s *store.Store, slot int, want int64) {
	t.Helper()
	if v, e := s.Read(slot); v != want || e != api.OK {
		t.Fatalf("Read(%d): %d %v, want %d", slot, v, e, want)
	}
}

func revoked(t *testing.T, s *store.Store, k int, want bool) {
	t.Helper()
	if is, e := s.Revoked(k); is != want || e != api.OK {
		t.Fatalf("Revoked(%d): %v %v, want %v", k, is, e, want)
	}
}

func active(t *testing.T, s *store.Store, want int64) {
	t.Helper()
	if n, e := s.Active(); n != want || e != api.OK {
		t.Fatalf("Active: %d %v, want %d", n, e, want)
	}
}

// blows makes sure which fuses of a chip are blown.
func blows(t *testing.T, c *chip.Chip, want ...int) {
	t.Helper()
	var got []int
	for i, is := range c.State().Blown {
		if is {
			got = append(got, i)
		}
	}
	if !slices.Equal(got, want) {
		t.Fatalf("the fuses %v are blown, want %v", got, want)
	}
}

// holds makes sure what a page's first cells are, and that all others are blank.
func holds(t *testing.T, c *chip.Chip, p int, want ...api.Cell) {
	t.Helper()
	for i := range c.Config().Cells {
		x := all(0xff)
		if i < len(want) {
			x = want[i]
		}
		if got, e := c.Read(p, i); got != x || e != api.OK {
			t.Fatalf("the cell %d of the page %d: %x %v, want %x", i, p, got, e, x)
		}
	}
}

// The numbers by which the document names the errors and the limits.
func TestNumbers(t *testing.T) {
	if api.OK != 0 || api.ErrRange != 2 || api.ErrPower != 8 || api.ErrWorn != 9 || api.ErrSaturated != 10 {
		t.Error("an error has another number")
	}
	if api.MaxSlots != 8 || api.MaxFuses != 64 || api.MaxStep != 65536 || api.MaxKeys != 64 {
		t.Error("a limit has another number")
	}
}

// P10.1: the chapter's examples 1 and 2.
func TestExamplesOfCounters(t *testing.T) {
	c, s := made(t, small())
	reads(t, s, 0, 0)
	if n := s.Last(); n != 8 {
		t.Fatalf("Last: %d", n)
	}
	bumped(t, c, s, 0, 1, 2)
	holds(t, c, 0, head(1), value(0, 1))
	bumped(t, c, s, 0, 2, 1)
	blows(t, c)
	bumped(t, c, s, 0, 3, 2)
	holds(t, c, 0, head(1), value(0, 1), value(0, 2), value(0, 3))
	blows(t, c, 0)

	answers(t, c, s, op{"bumpTo", 0, 2}, api.OK, 0)
	answers(t, c, s, op{"bumpTo", 0, 8}, api.OK, 2)
	holds(t, c, 0, head(1), value(0, 1), value(0, 2), value(0, 3), value(0, 8))
	blows(t, c, 0, 1)
	answers(t, c, s, op{"bump", 0, 0}, api.ErrSaturated, 0)
	answers(t, c, s, op{"bumpTo", 0, -1}, api.ErrRange, 0)
	if n, e := s.Read(1); n != 0 || e != api.ErrRange {
		t.Fatalf("Read(1): %d %v", n, e)
	}
	reads(t, s, 0, 8)
}

// P10.1: the chapter's example 3.
func TestExampleOfKeys(t *testing.T) {
	c, s := made(t, small())
	revoked(t, s, 3, false)
	answers(t, c, s, op{"revoke", 3, 0}, api.OK, 1)
	blows(t, c, 5)
	answers(t, c, s, op{"revoke", 3, 0}, api.OK, 0)
	revoked(t, s, 3, true)
	answers(t, c, s, op{"revoke", 4, 0}, api.ErrRange, 0)
}

// P10.1, P10.2: the chapter's example 4, and a mask between both.
func TestExampleOfACut(t *testing.T) {
	for _, x := range []struct {
		mask []byte
		want int64
	}{{nil, 2}, {[]byte{0xff}, 3}, {[]byte{0x0f}, 2}} {
		c, s := made(t, small())
		answers(t, c, s, op{"bumpTo", 0, 2}, api.OK, 2)
		c.Cut(0, x.mask)
		answers(t, c, s, op{"bump", 0, 0}, api.ErrPower, 1)
		c.Restore()
		s = mounted(t, c)
		reads(t, s, 0, x.want)
		blows(t, c)
		bumped(t, c, s, 0, x.want+1, 2)
		blows(t, c, 0)
	}
}

// P10.1, P10.3: the chapter's example 5.
func TestExampleOfFuses(t *testing.T) {
	_, s := laid{blown: []int{0}}.on(t, small())
	reads(t, s, 0, 3)
	c, s := laid{blown: []int{1}}.on(t, small())
	reads(t, s, 0, 3)
	bumped(t, c, s, 0, 4, 2)
}

// P10.1: the last value, of each Step and number of fuses at their edges, with power and without.
func TestLast(t *testing.T) {
	for _, step := range []int{1, 2, 3, 255, 256, api.MaxStep - 1, api.MaxStep} {
		for _, fuses := range []int{1, 2, 3, api.MaxFuses - 1, api.MaxFuses} {
			g := least()
			g.Step, g.Fuses = step, fuses
			c, s := made(t, g)
			var want int64
			for range fuses {
				want += int64(step)
			}
			for range step - 1 {
				want++
			}
			if n := s.Last(); n != want {
				t.Fatalf("Step %d, Fuses %d: %d, want %d", step, fuses, n, want)
			}
			answers(t, c, s, op{"bumpTo", 0, want + 1}, api.ErrSaturated, 0)
			answers(t, c, s, op{"bumpTo", 0, want}, api.OK, 2+fuses)
			answers(t, c, s, op{"bump", 0, 0}, api.ErrSaturated, 0)
			c.Cut(0, nil)
			c.Blow(0)
			if n := s.Last(); n != want || !c.Out() {
				t.Fatalf("without power: %d, want %d", n, want)
			}
		}
	}
}

// P10.1: the slots of a store are 0 to Slots - 1, though the log has one more; each value is its own slot's.
func TestSlots(t *testing.T) {
	for slots := 1; slots <= api.MaxSlots; slots++ {
		g := roomy()
		g.Slots, g.Cells = slots, slots+3
		c, s := made(t, g)
		told(t, "blank", c, s)
		answers(t, c, s, op{"activate", 0, 19}, api.OK, 2)
		for slot := range slots {
			did(t, "slots", c, s, op{"bumpTo", slot, int64(10 + slot)})
		}
		for slot := range slots {
			reads(t, s, slot, int64(10+slot))
		}
		active(t, s, 19)
		for _, slot := range append(some(), slots, slots+1, 9) {
			answers(t, c, s, op{"bump", slot, 0}, api.ErrRange, 0)
			for _, v := range []int64{math.MinInt64, -1, 0, 1, 20, 24, 25, most, math.MaxInt64} {
				answers(t, c, s, op{"bumpTo", slot, v}, api.ErrRange, 0)
			}
		}
	}
}

// P10.1: the keys of a store are 0 to Keys - 1; each has its own fuse, behind those of the slots.
func TestKeys(t *testing.T) {
	for _, keys := range []int{1, 2, 9, api.MaxKeys} {
		g := roomy()
		g.Keys = keys
		c, s := made(t, g)
		for _, k := range append(some(), keys, keys+1) {
			answers(t, c, s, op{"revoke", k, 0}, api.ErrRange, 0)
		}
		var want []int
		for k := keys - 1; k >= 0; k-- {
			revoked(t, s, k, false)
			answers(t, c, s, op{"revoke", k, 0}, api.OK, 1)
			answers(t, c, s, op{"revoke", k, 0}, api.OK, 0)
			want = append([]int{g.Slots*g.Fuses + k}, want...)
			blows(t, c, want...)
		}
		for slot := range g.Slots {
			reads(t, s, slot, 0)
		}
		active(t, s, 0)
	}
}

// P10.1, P10.3: a value is that of the fuses, or the log's number, whichever is greater: with the number below, at and above what the fuses say, and above Last; whichever of the fuses are blown.
func TestValue(t *testing.T) {
	g := roomy()
	for slot := range g.Slots {
		for bits := range 1 << g.Fuses {
			var fuses []int
			for i := range g.Fuses {
				if bits>>i&1 == 1 {
					fuses = append(fuses, i)
				}
			}
			up := int64(g.Step * len(fuses))
			for _, n := range []int64{0, up - 1, up, up + 1, 1, 23, 24, 25, 26, 1 << 32, most - 1, most} {
				if n < 0 {
					continue
				}
				c, s := numbered(t, g, slot, n, fuses...)
				reads(t, s, slot, max(up, n))
				told(t, "both holds", c, s)
				for other := range g.Slots {
					if other != slot {
						reads(t, s, other, 0)
					}
				}
				did(t, "both holds", c, s, op{"bump", slot, 0})
			}
		}
	}
}

// P10.1: BumpTo of -1, of 0, of the value and those beside it, of the last and those beside it, and of numbers far off, from whatever value.
func TestBumpTo(t *testing.T) {
	for _, g := range configs() {
		last := words{config: g}.last()
		slot := g.Slots - 1
		for _, was := range []int64{0, 1, int64(g.Step) - 1, int64(g.Step), last / 2, last - 1, last, last + 1, last + 9, most} {
			for _, v := range []int64{math.MinInt64, -most, -1, 0, was - 1, was, was + 1, int64(g.Step), last - 1, last, last + 1, 1 << 32, most, most + 1, math.MaxInt64} {
				c, s := numbered(t, g, slot, was)
				_, e := did(t, "BumpTo", c, s, op{"bumpTo", slot, v})
				want := was
				switch {
				case v < 0 && e != api.ErrRange, v >= 0 && v <= was && e != api.OK, v > was && v > last && e != api.ErrSaturated:
					t.Fatalf("BumpTo(%d, %d) of %d: %v", slot, v, was, e)
				case v > was && v <= last:
					want = v
				}
				if (want == was) != (c.Acts() == 0) {
					t.Fatalf("BumpTo(%d, %d) of %d: %d acts", slot, v, was, c.Acts())
				}
				reads(t, s, slot, want)
			}
		}
	}
}

// P10.1: a bump of each value, one behind the other, to the last: one more each time, a fuse at each multiple of Step; and then none.
func TestBumps(t *testing.T) {
	for _, g := range []api.Config{small(), roomy(), tight()} {
		g.Erases = 90
		c, s := made(t, g)
		last := s.Last()
		for v := int64(1); v <= last; v++ {
			blown := of(c).blown(g.Slots - 1)
			got, e := did(t, "bumps", c, s, op{"bump", g.Slots - 1, 0})
			if got != v || e != api.OK {
				t.Fatalf("Bump: %d %v, want %d", got, e, v)
			}
			if v%int64(g.Step) == 0 {
				blown++
			}
			if n := of(c).blown(g.Slots - 1); n != blown || blown != int(v)/g.Step {
				t.Fatalf("the value %d: %d fuses, want %d", v, n, blown)
			}
		}
		for range 3 {
			answers(t, c, s, op{"bump", g.Slots - 1, 0}, api.ErrSaturated, 0)
		}
		reads(t, s, g.Slots-1, last)
	}
}

// P10.1: the fuses of a value that are fewer than v / Step are raised to that, the least first, whichever are blown; just so many, or more, are left.
func TestFuses(t *testing.T) {
	g := roomy() // Step 5, four fuses a slot
	for _, x := range []struct {
		was   int64
		blown []int
		v     int64
		want  []int
	}{
		{4, nil, 5, []int{0}},
		{4, nil, 9, []int{0}},
		{4, nil, 10, []int{0, 1}},
		{4, nil, 24, []int{0, 1, 2, 3}},
		{0, nil, 4, nil},
		{9, nil, 9, nil},
		{9, nil, 11, []int{0, 1}},
		{9, []int{0}, 11, []int{0, 1}},
		{9, []int{3}, 11, []int{0, 3}},
		{9, []int{3}, 19, []int{0, 1, 3}},
		{9, []int{1, 3}, 14, []int{1, 3}},
		{9, []int{1, 3}, 15, []int{0, 1, 3}},
		{9, []int{1, 3}, 20, []int{0, 1, 2, 3}},
		{12, []int{2}, 13, []int{0, 2}},
		{0, []int{2, 3}, 11, []int{2, 3}},
		{0, []int{1, 2, 3}, 14, []int{1, 2, 3}},
		{0, []int{1, 2, 3}, 16, []int{1, 2, 3}},
		{0, []int{1, 2, 3}, 23, []int{0, 1, 2, 3}},
		{0, []int{0, 1, 2, 3}, 23, []int{0, 1, 2, 3}},
		{9, []int{0, 1, 2, 3}, 24, []int{0, 1, 2, 3}},
		{23, []int{0}, 24, []int{0, 1, 2, 3}},
	} {
		for slot := range g.Slots {
			c, s := numbered(t, g, slot, x.was, x.blown...)
			did(t, "fuses", c, s, op{"bumpTo", slot, x.v})
			var want []int
			for _, i := range x.want {
				want = append(want, slot*g.Fuses+i)
			}
			blows(t, c, want...)
			reads(t, s, slot, max(x.v, x.was, int64(5*len(x.blown))))
		}
	}
}

// P10.1: v is laid in the log though the fuses alone would hold it up; and a number of the log below what they say is passed over.
func TestLogBehindFuses(t *testing.T) {
	g := small()
	c, s := numbered(t, g, 0, 1, 0, 1)
	reads(t, s, 0, 6)
	for _, v := range []int64{0, 1, 2, 5, 6} {
		answers(t, c, s, op{"bumpTo", 0, v}, api.OK, 0)
	}
	bumped(t, c, s, 0, 7, 1)
	holds(t, c, 0, head(1), value(0, 1), value(0, 7))

	c, s = numbered(t, g, 0, 0, 1)
	answers(t, c, s, op{"bumpTo", 0, 6}, api.OK, 3)
	holds(t, c, 0, head(1), value(0, 6))
	blows(t, c, 0, 1)
}

// P10.1: a log's number above Last, which somebody else has laid: it is the value; nothing is below it, and nothing above it may be.
func TestAboveLast(t *testing.T) {
	for _, g := range configs() {
		last := words{config: g}.last()
		for _, n := range []int64{last + 1, last + 2, 1 << 40, most - 1, most} {
			c, s := numbered(t, g, 0, n)
			reads(t, s, 0, n)
			answers(t, c, s, op{"bump", 0, 0}, api.ErrSaturated, 0)
			for _, v := range []int64{0, 1, last, last + 1, n - 1, n} {
				answers(t, c, s, op{"bumpTo", 0, v}, api.OK, 0)
			}
			for _, v := range []int64{n + 1, most + 1, math.MaxInt64} {
				answers(t, c, s, op{"bumpTo", 0, v}, api.ErrSaturated, 0)
			}
		}
	}
}

// P10.1: the loader's number: Activate of 0, of the number that is there, of those beside it, of 2^62 and of one more.
func TestActivate(t *testing.T) {
	for _, g := range configs() {
		for _, was := range []int64{0, 1, 2, 1 << 32, most - 1, most} {
			for _, n := range []int64{math.MinInt64, -most, -1, 0, was - 1, was, was + 1, was + 2, most - 1, most, most + 1, math.MaxInt64} {
				x := laid{pages: [2][]api.Cell{{head(7), value(0, 3)}}}
				if was > 0 {
					x.pages[0] = append(x.pages[0], value(g.Slots, was))
				}
				c, s := x.on(t, g)
				active(t, s, was)
				want := was
				if n > was && n <= most {
					answers(t, c, s, op{"activate", 0, n}, api.OK, actsOf(c, op{"activate", 0, n}))
					want = n
				} else {
					answers(t, c, s, op{"activate", 0, n}, api.ErrRange, 0)
				}
				active(t, s, want)
				reads(t, s, 0, 3)
			}
		}
	}
}

// actsOf is how many acts a call does, if the power stays.
func actsOf(c *chip.Chip, o op) int {
	_, _, acts := o.by(of(c))
	return len(acts)
}

// P10.1: the loader's number is no counter: it has no fuses and no last value, and numbers of slots beyond it are nobody's.
func TestActiveApart(t *testing.T) {
	g := small()
	x := laid{pages: [2][]api.Cell{{head(1), value(2, 70), value(8, 80)}}, blown: []int{0, 1, 2, 3}}
	c, s := x.on(t, g)
	active(t, s, 0)
	reads(t, s, 0, 6)
	answers(t, c, s, op{"activate", 0, 1}, api.OK, 1)
	answers(t, c, s, op{"activate", 0, 9000}, api.OK, 1)
	blows(t, c, 0, 1, 2, 3)
	active(t, s, 9000)
	reads(t, s, 0, 6)
}

// P10.1: calls about a slot, a key or the loader's number change nothing of another one.
func TestApart(t *testing.T) {
	g := roomy()
	g.Erases = 30
	c, s := made(t, g)
	var values [3]int64
	var keys [3]bool
	var loads int64
	r := rand.New(rand.NewSource(101))
	for range 90 {
		n := r.Intn(3)
		switch r.Intn(4) {
		case 0, 1:
			o := op{"bumpTo", n, values[n] + 1 + r.Int63n(2)}
			if _, e := did(t, "apart", c, s, o); e == api.OK {
				values[n] = o.v
			}
		case 2:
			loads += 1 + r.Int63n(9)
			did(t, "apart", c, s, op{"activate", 0, loads})
		default:
			keys[n] = true
			did(t, "apart", c, s, op{"revoke", n, 0})
		}
		for i := range 3 {
			reads(t, s, i, values[i])
			revoked(t, s, i, keys[i])
		}
		active(t, s, loads)
	}
}

// P10.1: a page that is full is turned, with an erase or without; the fuses come behind its head.
func TestTurn(t *testing.T) {
	g := small()
	g.Erases = 1
	for _, old := range [][]api.Cell{nil, full(g, 6, 0)} {
		c, s := laid{pages: [2][]api.Cell{full(g, 7, 0), old}}.on(t, g)
		reads(t, s, 0, 2)
		acts := 3
		if old != nil {
			acts++
		}
		bumped(t, c, s, 0, 3, acts)
		holds(t, c, 1, head(8), value(0, 3))
		blows(t, c, 0)

		c, s = laid{pages: [2][]api.Cell{full(g, 7, 0), old}}.on(t, g)
		answers(t, c, s, op{"activate", 0, 5}, api.OK, acts)
		holds(t, c, 1, head(8), value(0, 2), value(1, 5))
		blows(t, c)
	}
}

// worn is a chip whose page 0 is full, and whose page 1 is so, too, and may not be erased any more.
func worn(t *testing.T, g api.Config) (*chip.Chip, *store.Store) {
	t.Helper()
	return laid{pages: [2][]api.Cell{full(g, 7, 0), full(g, 6, 0)}, erases: [2]int{0, g.Erases}}.on(t, g)
}

// P10.1: on a log that is worn nothing that must be laid is: no act, no fuse either; all else goes on.
func TestWorn(t *testing.T) {
	for _, g := range configs() {
		c, s := worn(t, g)
		was := of(c).value(0)
		if was < s.Last() {
			answers(t, c, s, op{"bump", 0, 0}, api.ErrWorn, 0)
			answers(t, c, s, op{"bumpTo", 0, s.Last()}, api.ErrWorn, 0)
		}
		if g.Slots > 1 {
			answers(t, c, s, op{"bump", 1, 0}, api.ErrWorn, 0)
		}
		answers(t, c, s, op{"activate", 0, 1}, api.ErrWorn, 0)
		answers(t, c, s, op{"activate", 0, most}, api.ErrWorn, 0)
		for _, v := range []int64{0, was - 1, was} {
			answers(t, c, s, op{"bumpTo", 0, v}, api.OK, 0)
		}
		answers(t, c, s, op{"bumpTo", 0, s.Last() + 1 + was}, api.ErrSaturated, 0)
		blows(t, c)
		answers(t, c, s, op{"revoke", 0, 0}, api.OK, 1)
		revoked(t, s, 0, true)
		reads(t, s, 0, was)
	}
}

// P10.1: with Erases 0 from a blank chip on, till no page has room: Bump is refused for wear, Read goes on.
func TestWornOut(t *testing.T) {
	g := small()
	g.Step = 100
	c, s := made(t, g)
	for v := int64(1); v <= 14; v++ {
		acts := 1
		if v == 1 || v == 8 {
			acts = 2
		}
		bumped(t, c, s, 0, v, acts)
	}
	for range 3 {
		answers(t, c, s, op{"bump", 0, 0}, api.ErrWorn, 0)
		answers(t, c, s, op{"bumpTo", 0, 200}, api.ErrWorn, 0)
		answers(t, c, s, op{"activate", 0, 1}, api.ErrWorn, 0)
	}
	reads(t, mounted(t, c), 0, 14)
}

// P10.1: behind the generation 2^62 nothing is laid once the page is full.
func TestLastGeneration(t *testing.T) {
	g := roomy()
	c, s := laid{pages: [2][]api.Cell{full(g, most, 1)}}.on(t, g)
	bumped(t, c, s, 0, 3, 1)
	answers(t, c, s, op{"bump", 0, 0}, api.ErrWorn, 0)
	answers(t, c, s, op{"activate", 0, 1}, api.ErrWorn, 0)
	reads(t, s, 0, 3)
}

// P10.1: without a present page the values are those of the fuses alone, whatever else lies there; the first number that is laid begins the log.
func TestNoPage(t *testing.T) {
	g := roomy()
	for _, zero := range [][]api.Cell{nil, {all(0)}, {value(0, 9), value(1, 9)}, {turned(head(3), 7), value(0, 20), value(3, 20)}, {all(0xff), value(0, 20)}} {
		c, s := laid{pages: [2][]api.Cell{zero, {all(0xff), head(4), value(0, 22)}}, blown: []int{2, 5, 7}}.on(t, g)
		reads(t, s, 0, 5)
		reads(t, s, 1, 10)
		reads(t, s, 2, 0)
		active(t, s, 0)
		acts := 2
		if zero != nil {
			acts++
		}
		bumped(t, c, s, 0, 6, acts)
		holds(t, c, 0, head(1), value(0, 6))
		reads(t, s, 1, 10)
		answers(t, c, s, op{"activate", 0, 1}, api.OK, 1)
	}
}

// P10.1: the errors come in the order in which the chapter names them; none of them does an act.
func TestOrderOfErrors(t *testing.T) {
	c, s := worn(t, small())
	for _, v := range []int64{math.MinInt64, -1} {
		answers(t, c, s, op{"bumpTo", 0, v}, api.ErrRange, 0)
		answers(t, c, s, op{"bumpTo", 1, v}, api.ErrRange, 0)
	}
	for _, v := range []int64{0, 2, 3, 8, 9, math.MaxInt64} {
		answers(t, c, s, op{"bumpTo", 1, v}, api.ErrRange, 0)
		answers(t, c, s, op{"bumpTo", -1, v}, api.ErrRange, 0)
	}
	for _, v := range []int64{0, 1, 2} {
		answers(t, c, s, op{"bumpTo", 0, v}, api.OK, 0)
	}
	for _, v := range []int64{9, 10, most, math.MaxInt64} {
		answers(t, c, s, op{"bumpTo", 0, v}, api.ErrSaturated, 0)
	}
	for _, v := range []int64{3, 4, 8} {
		answers(t, c, s, op{"bumpTo", 0, v}, api.ErrWorn, 0)
	}
	for _, n := range []int64{math.MinInt64, -1, 0, most + 1, math.MaxInt64} {
		answers(t, c, s, op{"activate", 0, n}, api.ErrRange, 0)
	}
	for _, n := range []int64{1, 2, most} {
		answers(t, c, s, op{"activate", 0, n}, api.ErrWorn, 0)
	}
	c.Cut(0, nil)
	c.Blow(0)
	dark(t, c, s)
}

// dark makes sure what all calls tell without power, and that nothing is done.
func dark(t *testing.T, c *chip.Chip, s *store.Store) {
	t.Helper()
	acts, held := c.Acts(), c.State()
	if m, e := store.Mount(c); m != nil || e != api.ErrPower {
		t.Fatalf("Mount: %v %v", m, e)
	}
	if n := s.Last(); n != of(c).last() {
		t.Fatalf("Last: %d", n)
	}
	values := []int64{math.MinInt64, -1, 0, 1, 2, 3, 1000, s.Last(), s.Last() + 1, most, most + 1, math.MaxInt64}
	for _, i := range append(some(), 0, 1, 2, 7, 8, 63, 64) {
		if n, e := s.Read(i); n != 0 || e != api.ErrPower {
			t.Fatalf("Read(%d): %d %v", i, n, e)
		}
		if n, e := s.Bump(i); n != 0 || e != api.ErrPower {
			t.Fatalf("Bump(%d): %d %v", i, n, e)
		}
		for _, v := range values {
			if e := s.BumpTo(i, v); e != api.ErrPower {
				t.Fatalf("BumpTo(%d, %d): %v", i, v, e)
			}
		}
		if is, e := s.Revoked(i); is || e != api.ErrPower {
			t.Fatalf("Revoked(%d): %v %v", i, is, e)
		}
		if e := s.Revoke(i); e != api.ErrPower {
			t.Fatalf("Revoke(%d): %v", i, e)
		}
	}
	if n, e := s.Active(); n != 0 || e != api.ErrPower {
		t.Fatalf("Active: %d %v", n, e)
	}
	for _, n := range values {
		if e := s.Activate(n); e != api.ErrPower {
			t.Fatalf("Activate(%d): %v", n, e)
		}
	}
	if !c.Out() || c.Acts() != acts || !same(c.State(), held) {
		t.Fatal("a call without power has changed the chip")
	}
}

// P10.1, P10.4: without power, whatever the chip holds; when it is there again, all is told as it was, by the store that there was, and by one that is mounted anew.
func TestNoPower(t *testing.T) {
	r := rand.New(rand.NewSource(102))
	for _, g := range configs() {
		for range 9 {
			c, s := anyChip(t, r, g)
			c.Cut(0, nil)
			if e := c.Blow(0); e != api.ErrPower {
				t.Fatal(e)
			}
			dark(t, c, s)
			c.Restore()
			told(t, "restored", c, s)
			told(t, "mounted", c, mounted(t, c))
			did(t, "restored", c, s, op{"bump", 0, 0})
		}
	}
}

// P10.1, P10.4: mounting, the calls that only tell, and all that are refused or have nothing to do, do no act: a cut that waits comes no nearer.
func TestNoAct(t *testing.T) {
	r := rand.New(rand.NewSource(103))
	for _, g := range configs() {
		for range 9 {
			c, _ := anyChip(t, r, g)
			acts, held := c.Acts(), c.State()
			c.Cut(0, []byte{0xff})
			s := mounted(t, c)
			told(t, "a cut waits", c, s)
			for _, i := range append(some(), g.Slots, g.Slots+1) {
				answers(t, c, s, op{"bump", i, 0}, api.ErrRange, 0)
				answers(t, c, s, op{"bumpTo", i, 1}, api.ErrRange, 0)
			}
			for _, i := range append(some(), g.Keys, g.Keys+1) {
				answers(t, c, s, op{"revoke", i, 0}, api.ErrRange, 0)
			}
			for slot := range g.Slots {
				v := of(c).value(slot)
				answers(t, c, s, op{"bumpTo", slot, -1}, api.ErrRange, 0)
				answers(t, c, s, op{"bumpTo", slot, v}, api.OK, 0)
				answers(t, c, s, op{"bumpTo", slot, max(v, s.Last()) + 1}, api.ErrSaturated, 0)
			}
			for k := range g.Keys {
				if of(c).holds.Blown[of(c).key(k)] {
					answers(t, c, s, op{"revoke", k, 0}, api.OK, 0)
				}
			}
			answers(t, c, s, op{"activate", 0, of(c).number(g.Slots)}, api.ErrRange, 0)
			answers(t, c, s, op{"activate", 0, most + 1}, api.ErrRange, 0)
			if c.Acts() != acts || c.Out() || !same(c.State(), held) {
				t.Fatal("the chip was changed")
			}
			if e := c.Blow(0); e != api.ErrPower {
				t.Fatalf("the cut waits no more: %v", e)
			}
		}
	}
}

// near is a number near enough to a slot's values to matter.
func near(r *rand.Rand, g api.Config) int64 {
	if r.Intn(9) == 0 {
		return 1 + r.Int63n(most)>>r.Intn(62)
	}
	return 1 + r.Int63n(words{config: g}.last()+3)
}

// anyCell is a blank cell, a right one, a torn one or whatever else.
func anyCell(r *rand.Rand, g api.Config) api.Cell {
	switch r.Intn(8) {
	case 0:
		return all(0xff)
	case 1:
		return head(1 + r.Int63n(most)>>r.Intn(62))
	case 2:
		return turned(value(r.Intn(9), near(r, g)), r.Intn(256))
	case 3:
		var c api.Cell
		r.Read(c[:])
		return c
	case 4:
		return value(9+r.Intn(9), near(r, g))
	default:
		return value(r.Intn(9), near(r, g))
	}
}

// soundCell is a cell in which no bit and its complement are both 0: a blank one, a right one, a row beside its complement that is no record, or any torn one of that kind.
func soundCell(r *rand.Rand, g api.Config) api.Cell {
	switch r.Intn(8) {
	case 0:
		return all(0xff)
	case 1:
		var b [12]byte
		r.Read(b[:])
		return summed(b[:])
	case 2:
		return value(9+r.Intn(9), 1+r.Int63n(most))
	case 3:
		c := value(r.Intn(9), near(r, g))
		for range 1 + r.Intn(9) {
			c[r.Intn(32)] |= 1 << r.Intn(8)
		}
		return c
	case 4:
		return head(1 + r.Int63n(5))
	default:
		return value(r.Intn(g.Slots+1), 1+r.Int63n(words{config: g}.last()))
	}
}

// anyPage has a right head more often than not, often one of a generation that another page has too, and is full or blank at times.
func anyPage(r *rand.Rand, g api.Config, some func(*rand.Rand, api.Config) api.Cell) []api.Cell {
	cells := slices.Repeat([]api.Cell{all(0xff)}, g.Cells)
	if r.Intn(6) == 0 {
		return cells
	}
	n := g.Cells
	if r.Intn(2) == 0 {
		n = 1 + r.Intn(g.Cells)
	}
	for i := range n {
		cells[i] = some(r, g)
	}
	if r.Intn(4) > 0 {
		cells[0] = head([]int64{1, 2, 3, 4, most - 1, most}[r.Intn(6)])
	}
	return cells
}

// anyBlown are fuses of a chip, none, few or most of them.
func anyBlown(r *rand.Rand, g api.Config) []int {
	var blown []int
	dense := r.Intn(4)
	for i := range g.Slots*g.Fuses + g.Keys {
		if r.Intn(4) < dense {
			blown = append(blown, i)
		}
	}
	return blown
}

func chipOf(t *testing.T, r *rand.Rand, g api.Config, some func(*rand.Rand, api.Config) api.Cell) (*chip.Chip, *store.Store) {
	t.Helper()
	x := laid{blown: anyBlown(r, g)}
	for p := range 2 {
		x.pages[p] = anyPage(r, g, some)
		x.erases[p] = r.Intn(g.Erases + 2)
	}
	return x.on(t, g)
}

func anyChip(t *testing.T, r *rand.Rand, g api.Config) (*chip.Chip, *store.Store) {
	t.Helper()
	return chipOf(t, r, g, anyCell)
}

func anyConfig(r *rand.Rand, slots int) api.Config {
	g := api.Config{Slots: 1 + r.Intn(slots), Fuses: 1 + r.Intn(5), Step: 1 + r.Intn(6), Keys: 1 + r.Intn(4), Erases: r.Intn(5), Area: r.Intn(2)}
	g.Cells = g.Slots + 3 + r.Intn(4)
	return g
}

// anyOp is a call that may do acts, with arguments that matter more often than not.
func anyOp(r *rand.Rand, w words) op {
	slot := r.Intn(w.config.Slots)
	if r.Intn(12) == 0 {
		return op{[]string{"bump", "bumpTo", "revoke"}[r.Intn(3)], r.Intn(20) - 2, r.Int63n(30) - 2}
	}
	switch r.Intn(8) {
	case 0:
		return op{"revoke", r.Intn(w.config.Keys), 0}
	case 1, 2:
		return op{"activate", 0, w.number(w.config.Slots) + r.Int63n(4)}
	case 3, 4:
		return op{"bump", slot, 0}
	case 5:
		return op{"bumpTo", slot, r.Int63n(w.last() + 2)}
	}
	return op{"bumpTo", slot, w.value(slot) + r.Int63n(6)}
}

// P10.1, P10.3: over chips that hold whatever: all calls, and several that may do acts one behind the other, are as the words have it; and a value is never below what the fuses say.
func TestAnyChip(t *testing.T) {
	r := rand.New(rand.NewSource(104))
	seen := map[api.Errno]int{}
	for range 1200 {
		g := anyConfig(r, api.MaxSlots)
		c, s := anyChip(t, r, g)
		told(t, "any chip", c, s)
		for range 1 + r.Intn(2*g.Cells) {
			_, e := did(t, "any chip", c, s, anyOp(r, of(c)))
			seen[e]++
			for slot := range g.Slots {
				if v, _ := s.Read(slot); v < int64(g.Step*of(c).blown(slot)) {
					t.Fatalf("the value %d of the slot %d is below its fuses", v, slot)
				}
			}
		}
	}
	for _, e := range []api.Errno{api.OK, api.ErrRange, api.ErrSaturated, api.ErrWorn} {
		if seen[e] == 0 {
			t.Errorf("%v was never answered", e)
		}
	}
}

// masks are of all bits, of none, of one byte each way, of one cell of a page alone, and of any bytes, few or many of their bits being 1.
func masks(r *rand.Rand, cells int) [][]byte {
	ms := [][]byte{nil, {0}, {0xff}, {0x0f}, {0xf0}, {0x01}, {0xfe}, {0, 0xff}, {0xff, 0, 0}}
	for i := range cells {
		one, rest := make([]byte, 32*cells), bytes.Repeat([]byte{0xff}, 32*cells)
		copy(one[32*i:], bytes.Repeat([]byte{0xff}, 32))
		clear(rest[32*i : 32*i+32])
		ms = append(ms, one, rest)
	}
	for range 12 {
		m := make([]byte, 1+r.Intn(32*cells+9))
		dense := 1 + r.Intn(60)
		for i := range 8 * len(m) {
			if r.Intn(61) < dense {
				m[i/8] |= 1 << (i % 8)
			}
		}
		ms = append(ms, m)
	}
	return ms
}

// P10.1: over chips that hold whatever the power goes at each act of a call, with all kinds of masks, and at acts of the calls behind it: as soon as it goes the call answers ErrPower, and no more is done.
func TestCutAnyChip(t *testing.T) {
	r := rand.New(rand.NewSource(105))
	cuts := 0
	for range 120 {
		g := anyConfig(r, 3)
		first, _ := anyChip(t, r, g)
		o := anyOp(r, of(first))
		acts := actsOf(first, o)
		for at := range acts + 1 {
			for _, m := range masks(r, g.Cells) {
				c := first.Copy()
				s := mounted(t, c)
				c.Cut(at, m)
				_, e := did(t, "cut", c, s, o)
				if (e == api.ErrPower) != (at < acts) {
					t.Fatalf("a cut at %d of %d acts: %v", at, acts, e)
				}
				if c.Out() {
					cuts++
				}
				c.Restore()
				told(t, "cut", c, s)
				c.Cut(r.Intn(5), m)
				did(t, "again", c, s, anyOp(r, of(c)))
				c.Restore()
				told(t, "again", c, mounted(t, c))
			}
		}
	}
	if cuts < 1000 {
		t.Errorf("%d cuts", cuts)
	}
}

// sound says, bit by bit, whether in none of a page's cells a bit and its complement are both 0.
func sound(cells []api.Cell) bool {
	for _, c := range cells {
		for i := range 16 {
			if c[i]|c[16+i] != 0xff {
				return false
			}
		}
	}
	return true
}

func soundChip(t *testing.T, r *rand.Rand, g api.Config) (*chip.Chip, *store.Store) {
	t.Helper()
	c, s := chipOf(t, r, g, soundCell)
	for _, p := range c.State().Pages[:2] {
		if !sound(p) {
			t.Fatal("a page is not sound")
		}
	}
	return c, s
}

// knows is all that a store tells.
type knows struct {
	values []int64
	keys   []bool
	loads  int64
}

func known(t *testing.T, c *chip.Chip, s *store.Store) knows {
	t.Helper()
	var k knows
	for slot := range c.Config().Slots {
		v, e := s.Read(slot)
		if e != api.OK {
			t.Fatalf("Read(%d): %v", slot, e)
		}
		k.values = append(k.values, v)
	}
	for key := range c.Config().Keys {
		is, e := s.Revoked(key)
		if e != api.OK {
			t.Fatalf("Revoked(%d): %v", key, e)
		}
		k.keys = append(k.keys, is)
	}
	n, e := s.Active()
	if e != api.OK {
		t.Fatalf("Active: %v", e)
	}
	k.loads = n
	return k
}

func (k knows) is(l knows) bool {
	return slices.Equal(k.values, l.values) && slices.Equal(k.keys, l.keys) && k.loads == l.loads
}

// with is what a call makes of it, if it takes its full effect.
func (k knows) with(o op) knows {
	k = knows{slices.Clone(k.values), slices.Clone(k.keys), k.loads}
	switch o.kind {
	case "bump":
		k.values[o.n]++
	case "bumpTo":
		k.values[o.n] = max(k.values[o.n], o.v)
	case "revoke":
		k.keys[o.n] = true
	default:
		k.loads = o.v
	}
	return k
}

// outcome counts how often a call at which the power went left all as it was, and how often it took full effect.
type outcome struct{ none, whole int }

// step does one call over a sound log, at one of whose acts the power may go, and makes sure that it took full effect or none, that nothing fell, and that a store mounted anew tells the same.
func (o *outcome) step(t *testing.T, c *chip.Chip, s *store.Store, call op) api.Errno {
	t.Helper()
	was := known(t, c, s)
	_, e := did(t, "over a sound chip", c, s, call)
	c.Restore()
	now := known(t, c, s)
	if !now.is(known(t, c, mounted(t, c))) {
		t.Fatalf("%+v, and mounted anew %+v", now, known(t, c, mounted(t, c)))
	}
	switch {
	case e == api.OK && now.is(was.with(call)):
	case e == api.ErrPower && now.is(was):
		o.none++
	case e == api.ErrPower && now.is(was.with(call)):
		o.whole++
	case e != api.OK && e != api.ErrPower && now.is(was):
	default:
		t.Fatalf("%+v: %v: %+v, which was %+v", call, e, now, was)
	}
	for slot, v := range now.values {
		if v < was.values[slot] {
			t.Fatalf("the slot %d fell from %d to %d", slot, was.values[slot], v)
		}
	}
	return e
}

// P10.2: over sound chips the power goes at each act of each kind of call, with all kinds of masks: what was, or v; and nothing of another one.
func TestWholeOrNone(t *testing.T) {
	r := rand.New(rand.NewSource(106))
	var o outcome
	for range 150 {
		g := anyConfig(r, 3)
		first, _ := soundChip(t, r, g)
		call := anyOp(r, of(first))
		for at := range actsOf(first, call) {
			for _, m := range masks(r, g.Cells) {
				c := first.Copy()
				c.Cut(at, m)
				if e := o.step(t, c, mounted(t, c), call); e != api.ErrPower {
					t.Fatalf("a cut at the act %d: %v", at, e)
				}
			}
		}
	}
	if o.none == 0 || o.whole == 0 {
		t.Errorf("not all was seen: %+v", o)
	}
}

// P10.2: one BumpTo of a store that began blank, that turns the page and blows two fuses, cut at each act of it, and so again at what is done behind it, and once more: the value is the old one or v, and without a cut at last it is v; the next bump blows what is left.
func TestCutAgainAndAgain(t *testing.T) {
	g := small()
	g.Erases = 9
	var o outcome
	begun, s := made(t, g)
	for range 2 {
		bumped(t, begun, s, 0, of(begun).value(0)+1, actsOf(begun, op{"bump", 0, 0}))
	}
	for n := int64(1); n <= 11; n++ {
		did(t, "loads", begun, s, op{"activate", 0, n})
	}
	if of(begun).free() != 0 {
		t.Fatal("a page has room")
	}
	to := op{"bumpTo", 0, 7}
	if n := actsOf(begun, to); n != 6 {
		t.Fatalf("%d acts", n)
	}
	ms := [][]byte{nil, {0xff}, {0x0f}, {0x6a, 0x35, 0x9e}, append(make([]byte, 32), bytes.Repeat([]byte{0xff}, 224)...)}
	for at := range 6 * 6 * 3 {
		for i := range len(ms) * len(ms) * len(ms) {
			c := begun.Copy()
			s := mounted(t, c)
			for k, a := range []int{at % 6, at / 6 % 6, at / 36} {
				c.Cut(a, ms[[]int{i, i / len(ms), i / len(ms) / len(ms)}[k]%len(ms)])
				if e := o.step(t, c, s, to); e == api.OK {
					break
				}
			}
			c.Cut(-1, nil)
			if e := o.step(t, c, s, to); e != api.OK {
				t.Fatal(e)
			}
			reads(t, s, 0, 7)
			active(t, s, 11)
			if e := o.step(t, c, s, op{"bump", 0, 0}); e != api.OK {
				t.Fatal(e)
			}
			reads(t, s, 0, 8)
			blows(t, c, 0, 1)
		}
	}
	if o.none == 0 || o.whole == 0 {
		t.Errorf("not all was seen: %+v", o)
	}
}

// P10.2, P10.4: rows of calls of all kinds over chips that began blank, or that are sound, cut more often than not: nothing ever falls, what was answered OK stays.
func TestNeverBack(t *testing.T) {
	r := rand.New(rand.NewSource(107))
	var o outcome
	seen := map[api.Errno]int{}
	for range 100 {
		g := anyConfig(r, api.MaxSlots)
		g.Step, g.Erases = 1+r.Intn(12), 1+r.Intn(40)
		c, s := made(t, g)
		if r.Intn(2) == 0 {
			c, s = soundChip(t, r, g)
		}
		for range 50 {
			ms := masks(r, g.Cells)
			c.Cut(r.Intn(8)-1, ms[r.Intn(len(ms))])
			call := anyOp(r, of(c))
			if _, e, _ := call.by(of(c)); e == api.ErrRange {
				call = op{"bump", 0, 0}
			}
			seen[o.step(t, c, s, call)]++
			if r.Intn(3) == 0 {
				s = mounted(t, c)
			}
		}
	}
	for _, e := range []api.Errno{api.OK, api.ErrPower, api.ErrSaturated, api.ErrWorn} {
		if seen[e] == 0 {
			t.Errorf("%v was never answered", e)
		}
	}
	if o.none == 0 || o.whole == 0 {
		t.Errorf("not all was seen: %+v", o)
	}
}

// P10.2: behind a BumpTo that was answered OK the value is at least v, whatever is cut from then on.
func TestAcknowledged(t *testing.T) {
	r := rand.New(rand.NewSource(108))
	for range 60 {
		g := anyConfig(r, 3)
		g.Step, g.Erases = 9, 60
		c, s := made(t, g)
		sure := make([]int64, g.Slots)
		for range 40 {
			ms := masks(r, g.Cells)
			c.Cut(r.Intn(9), ms[r.Intn(len(ms))])
			slot := r.Intn(g.Slots)
			v := r.Int63n(s.Last() + 1)
			if e := s.BumpTo(slot, v); e == api.OK {
				sure[slot] = max(sure[slot], v)
			} else if e != api.ErrPower {
				t.Fatal(e)
			}
			c.Restore()
			s = mounted(t, c)
			for i, least := range sure {
				if n, e := s.Read(i); n < least || e != api.OK {
					t.Fatalf("Read(%d): %d %v, and %d was acknowledged", i, n, e, least)
				}
			}
		}
	}
}

// P10.1, P10.2: the power goes at each of several fuses: the log's record is there, so the value is v from then on, and only a greater one blows what is left.
func TestCutAtFuses(t *testing.T) {
	g := roomy()
	for at := range 4 {
		for _, mask := range [][]byte{nil, {0xfe}, {1}} {
			c, s := numbered(t, g, 1, 4)
			c.Cut(1+at, mask)
			answers(t, c, s, op{"bumpTo", 1, 22}, api.ErrPower, 2+at)
			c.Restore()
			blown := at
			if len(mask) > 0 {
				blown += int(mask[0] & 1)
			}
			reads(t, s, 1, 22)
			if n := of(c).blown(1); n != blown {
				t.Fatalf("%d fuses are blown, want %d", n, blown)
			}
			answers(t, c, s, op{"bumpTo", 1, 22}, api.OK, 0)
			bumped(t, c, s, 1, 23, 1+4-blown)
			blows(t, c, 4, 5, 6, 7)
		}
	}
}

// P10.1: the power goes at a key's fuse: it is revoked or not, by the lowest bit of the mask; done again it is.
func TestCutAtAKey(t *testing.T) {
	for _, mask := range [][]byte{nil, {0}, {1}, {0xfe}, {0xff}, {0, 1}} {
		c, s := made(t, small())
		c.Cut(0, mask)
		answers(t, c, s, op{"revoke", 2, 0}, api.ErrPower, 1)
		c.Restore()
		is := len(mask) > 0 && mask[0]&1 == 1
		revoked(t, s, 2, is)
		revoked(t, mounted(t, c), 2, is)
		acts := 1
		if is {
			acts = 0
		}
		answers(t, c, s, op{"revoke", 2, 0}, api.OK, acts)
		revoked(t, s, 2, true)
	}
}

// P10.3: whoever erases the flash by hand, or lays whatever there: a value is at least what the fuses say, a key stays revoked, and the chip can be mounted; from there the counter goes on.
func TestErasedByHand(t *testing.T) {
	g := small()
	g.Erases = 3
	c, s := made(t, g)
	answers(t, c, s, op{"bumpTo", 0, 5}, api.OK, 3)
	answers(t, c, s, op{"revoke", 1, 0}, api.OK, 1)
	answers(t, c, s, op{"activate", 0, 4}, api.OK, 1)
	c.Erase(0)
	for _, s := range []*store.Store{s, mounted(t, c)} {
		reads(t, s, 0, 3)
		revoked(t, s, 1, true)
		active(t, s, 0)
	}
	bumped(t, c, s, 0, 4, 2)
	r := rand.New(rand.NewSource(109))
	for range 300 {
		c, s := anyChip(t, r, anyConfig(r, api.MaxSlots))
		w := of(c)
		for slot := range w.config.Slots {
			if v, e := s.Read(slot); v < int64(w.config.Step*w.blown(slot)) || e != api.OK {
				t.Fatalf("Read(%d): %d %v, with %d fuses blown", slot, v, e, w.blown(slot))
			}
		}
	}
}

// P10.4: a store mounted anew tells what the one ahead of it told, and mounting does no act, wherever the power went ahead of it.
func TestMountedAnew(t *testing.T) {
	r := rand.New(rand.NewSource(110))
	for range 150 {
		g := anyConfig(r, 4)
		c, s := anyChip(t, r, g)
		for range 6 {
			ms := masks(r, g.Cells)
			c.Cut(r.Intn(6)-1, ms[r.Intn(len(ms))])
			anyOp(r, of(c)).call(s)
			c.Restore()
			told := known(t, c, s)
			acts, held := c.Acts(), c.State()
			s = mounted(t, c)
			if c.Acts() != acts || c.Out() || !same(c.State(), held) {
				t.Fatal("mounting has changed the chip")
			}
			if now := known(t, c, s); !now.is(told) {
				t.Fatalf("%+v, and mounted anew %+v", told, now)
			}
		}
	}
}

// R4: an answer hangs on what the chip holds then: acts by others are seen at once.
func TestOtherHands(t *testing.T) {
	c, s := made(t, roomy())
	for _, hand := range []func() api.Errno{
		func() api.Errno { return c.Blow(1) },
		func() api.Errno { return c.Blow(12) },
		func() api.Errno { return c.Program(1, 3, value(0, 9)) },
		func() api.Errno { return c.Program(1, 0, head(5)) },
		func() api.Errno { return c.Program(0, 2, value(3, 90)) },
		func() api.Errno { return c.Program(0, 0, head(6)) },
		func() api.Errno { return c.Blow(0) },
		func() api.Errno { return c.Erase(0) },
		func() api.Errno { return c.Program(1, 0, all(0x7f)) },
		func() api.Errno { return c.Erase(1) },
	} {
		if e := hand(); e != api.OK {
			t.Fatal(e)
		}
		told(t, "by hand", c, s)
		for _, o := range []op{{"bump", 0, 0}, {"bumpTo", 1, 12}, {"activate", 0, 95}, {"revoke", 0, 0}} {
			d := c.Copy()
			did(t, "by hand", d, mounted(t, d), o)
		}
	}
}

// R4: a store over a copy of a chip is another one: neither sees what is done to the other.
func TestCopies(t *testing.T) {
	c, s := made(t, small())
	bumped(t, c, s, 0, 1, 2)
	d := c.Copy()
	m := mounted(t, d)
	answers(t, d, m, op{"bumpTo", 0, 6}, api.OK, 3)
	answers(t, c, s, op{"revoke", 1, 0}, api.OK, 1)
	answers(t, c, s, op{"activate", 0, 7}, api.OK, 1)
	reads(t, s, 0, 1)
	reads(t, m, 0, 6)
	revoked(t, s, 1, true)
	revoked(t, m, 1, false)
	active(t, s, 7)
	active(t, m, 0)
}

// R4: an answer hangs on the chip alone, whoever else asks a store of it at that time, and stores of other chips are bumped beside it.
func TestManyAtOneTime(t *testing.T) {
	g := roomy()
	c, s := laid{pages: [2][]api.Cell{full(g, 7, 2), full(g, 6, 0)}, blown: []int{5, 6, 13}}.on(t, g)
	want := known(t, c, s)
	var wg sync.WaitGroup
	for i := range 16 {
		d := c.Copy()
		m := mounted(t, d)
		wg.Go(func() {
			for k := range 100 {
				if v, e := s.Read((i + k) % 3); v != want.values[(i+k)%3] || e != api.OK {
					t.Errorf("Read: %d %v", v, e)
				}
				if is, e := s.Revoked((i + k) % 3); is != want.keys[(i+k)%3] || e != api.OK {
					t.Errorf("Revoked: %v %v", is, e)
				}
				if n, e := s.Active(); n != want.loads || e != api.OK || s.Last() != 24 {
					t.Errorf("Active: %d %v", n, e)
				}
			}
			for v := want.values[i%3] + 1; v <= 14; v++ {
				if n, e := m.Bump(i % 3); n != v || e != api.OK {
					t.Errorf("Bump: %d %v, want %d", n, e, v)
				}
			}
		})
	}
	wg.Wait()
}
