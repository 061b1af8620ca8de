package loader_test

import (
	"fmt"
	"math/rand"
	"slices"
	"testing"

	"portcullis/api"
	"portcullis/chip"
	"portcullis/image"
	"portcullis/keys"
	"portcullis/loader"
	"portcullis/store"
)

// example is the chapter's: an area has 512 bytes.
func example() api.Config {
	return api.Config{Cells: 16, Slots: 1, Fuses: 2, Step: 100, Keys: 2, Erases: 9, Area: 1}
}

// several has areas of several pages, 480 bytes each, and a log that is soon full.
func several() api.Config {
	return api.Config{Cells: 5, Slots: 2, Fuses: 3, Step: 10, Keys: 3, Erases: 4, Area: 3}
}

func unerased() api.Config {
	return api.Config{Cells: 4, Slots: 1, Fuses: 2, Step: 8, Keys: 3, Area: 2}
}

// tight has as many slots, and as few cells for them, as there may be.
func tight() api.Config {
	return api.Config{Cells: 11, Slots: 8, Fuses: 2, Step: 20, Keys: 4, Erases: 3, Area: 1}
}

func bare() api.Config {
	return api.Config{Cells: 8, Slots: 1, Fuses: 2, Step: 50, Keys: 3, Erases: 3}
}

func configs() []api.Config {
	return []api.Config{example(), several(), unerased(), tight()}
}

func size(g api.Config) int { return 32 * g.Cells * g.Area }

// bench is a loader, with all that it stands on.
type bench struct {
	chip   *chip.Chip
	store  *store.Store
	ring   *keys.Ring
	loader *loader.Loader
	known  []int // the keys of the ring
}

func made(t *testing.T, g api.Config, known ...int) *bench {
	t.Helper()
	c, e := chip.New(g)
	if e != api.OK {
		t.Fatalf("New(%+v): %v", g, e)
	}
	return on(t, c, known...)
}

func on(t *testing.T, c *chip.Chip, known ...int) *bench {
	t.Helper()
	var l []api.Secret
	for _, k := range known {
		l = append(l, api.Secret{Key: k, Bytes: secretOf(k)})
	}
	ring, e, at := keys.New(l)
	if e != api.OK {
		t.Fatalf("New(%v): %v at %d", known, e, at)
	}
	x := &bench{chip: c, ring: ring, known: known}
	x.mount(t)
	return x
}

// mount makes a store and a loader anew.
func (x *bench) mount(t *testing.T) {
	t.Helper()
	s, e := store.Mount(x.chip)
	if e != api.OK {
		t.Fatalf("Mount: %v", e)
	}
	x.store, x.loader = s, loader.New(x.chip, s, x.ring)
}

// again is a bench on a copy of the chip.
func (x *bench) again(t *testing.T) *bench {
	t.Helper()
	return on(t, x.chip.Copy(), x.known...)
}

func (x *bench) off(t *testing.T) {
	t.Helper()
	if !off(x.chip) {
		t.Fatal("the power is there")
	}
}

// laid is what somebody has laid: cells of the log's pages, bytes of the areas, how often pages were erased, and fuses that are blown.
type laid struct {
	log    [2][]api.Cell
	areas  [2][]byte
	erases map[int]int
	blown  []int
}

func (y laid) on(t *testing.T, g api.Config, known ...int) *bench {
	t.Helper()
	s := made(t, g).chip.State()
	for p, cells := range y.log {
		copy(s.Pages[p], cells)
	}
	for n, b := range y.areas {
		for i, v := range b {
			s.Pages[2+n*g.Area+i/32/g.Cells][i/32%g.Cells][i%32] = v
		}
	}
	for p, n := range y.erases {
		s.Erases[p] = n
	}
	for _, i := range y.blown {
		s.Blown[i] = true
	}
	c, e := chip.Lay(g, s)
	if e != api.OK {
		t.Fatalf("Lay(%+v): %v", g, e)
	}
	return on(t, c, known...)
}

// named is a page of the log that makes Active so great: blank, if it is 0.
func named(g api.Config, n int64) []api.Cell {
	if n == 0 {
		return nil
	}
	return []api.Cell{head(1), value(g.Slots, n)}
}

// fuseOf is the one by which a key is revoked.
func fuseOf(g api.Config, key int) int { return g.Slots*g.Fuses + key }

func row(r *rand.Rand, n int) []byte {
	b := make([]byte, n)
	r.Read(b)
	return b
}

func turned(b []byte, bit int) []byte {
	c := slices.Clone(b)
	c[bit/8] ^= 1 << (bit % 8)
	return c
}

func short(b []byte) string {
	if len(b) > 60 {
		return fmt.Sprintf("%x.. (%d bytes)", b[:60], len(b))
	}
	return fmt.Sprintf("%x", b)
}

func (a told) String() string {
	return fmt.Sprintf("(slot %d, key %d, version %d, payload %s, tag %x), %d, %d", a.x.Slot, a.x.Key, a.x.Version, short(a.x.Payload), a.x.Tag, a.n, a.e)
}

func (x *bench) start() told {
	im, n, e := x.loader.Start()
	return told{im, n, e}
}

// asks holds Start's answer against the words, and that it does nothing.
func (x *bench) asks(t *testing.T) told {
	t.Helper()
	w, acts := x.words(), x.chip.Acts()
	want, _ := w.start()
	got := x.start()
	if !got.is(want) {
		t.Fatalf("Start: %v, want %v", got, want)
	}
	if x.chip.Acts() != acts || x.chip.Out() || !same(x.chip.State(), w.holds) {
		t.Fatal("Start did something")
	}
	return got
}

// stages holds a Stage against the words: its answer, how many acts it does, and the whole chip behind it.
func (x *bench) stages(t *testing.T, b []byte) api.Errno {
	t.Helper()
	w, acts := x.words(), x.chip.Acts()
	want, l := w.stage(b)
	w, acts = w.behind(l), acts+len(l)
	if e := x.loader.Stage(b); e != want {
		t.Fatalf("Stage(%s): %v, want %v", short(b), e, want)
	}
	if x.chip.Acts() != acts || x.chip.Out() || !same(x.chip.State(), w.holds) {
		t.Fatalf("Stage(%s): %d acts, want %d; %v, want %v", short(b), x.chip.Acts(), acts, x.chip.State(), w.holds)
	}
	x.asks(t)
	return want
}

// answers holds a Stage's answer against one that the test has written out, and the words too.
func (x *bench) answers(t *testing.T, b []byte, want api.Errno) {
	t.Helper()
	acts := x.chip.Acts()
	if e := x.stages(t, b); e != want {
		t.Fatalf("Stage(%s): %v, want %v", short(b), e, want)
	}
	if want != api.OK && x.chip.Acts() != acts {
		t.Fatalf("Stage(%s): %d acts", short(b), x.chip.Acts()-acts)
	}
}

// tells makes sure that Start tells just that image, of that area.
func (x *bench) tells(t *testing.T, b []byte, n int) {
	t.Helper()
	want, e := image.Parse(b)
	if e != nil {
		t.Fatal(e)
	}
	if got := x.start(); !got.is(told{want, n, api.OK}) {
		t.Fatalf("Start: %v, want %s of the area %d", got, short(b), n)
	}
	x.asks(t)
}

func (x *bench) tellsNone(t *testing.T) {
	t.Helper()
	if im, n, e := x.loader.Start(); n != 0 || e != api.ErrNone || im.Slot != 0 || im.Key != 0 || im.Version != 0 || len(im.Payload) != 0 || im.Tag != (api.Hash{}) {
		t.Fatalf("Start: %+v, %d, %v", im, n, e)
	}
	x.asks(t)
}

func (x *bench) active(t *testing.T, want int64) {
	t.Helper()
	if n, e := x.store.Active(); n != want || e != api.OK {
		t.Fatalf("Active: %d %v, want %d", n, e, want)
	}
}

func (x *bench) raise(t *testing.T, slot int, v int64) {
	t.Helper()
	if e := x.store.BumpTo(slot, v); e != api.OK {
		t.Fatalf("BumpTo(%d, %d): %v", slot, v, e)
	}
}

func (x *bench) revoke(t *testing.T, key int) {
	t.Helper()
	if e := x.store.Revoke(key); e != api.OK {
		t.Fatalf("Revoke(%d): %v", key, e)
	}
}
