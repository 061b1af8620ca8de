package rom_test

import (
	"bytes"
	"fmt"
	"math/rand"
	"slices"
	"testing"

	"portcullis/api"
	"portcullis/chip"
	"portcullis/keys"
	"portcullis/loader"
	"portcullis/rom"
	"portcullis/store"
)

// example is the chapter's, with areas of 512 bytes.
func example() api.Config {
	return api.Config{Cells: 16, Slots: 1, Fuses: 2, Step: 100, Keys: 2, Erases: 9, Area: 1}
}

// several has areas of several pages, 480 bytes each, and a log that is soon full.
func several() api.Config {
	return api.Config{Cells: 5, Slots: 2, Fuses: 3, Step: 10, Keys: 3, Erases: 4, Area: 3}
}

func unerased() api.Config {
	return api.Config{Cells: 4, Slots: 1, Fuses: 2, Step: 8, Keys: 3, Area: 2}
}

// tight has as many slots, and as few cells for them, as there may be.
func tight() api.Config {
	return api.Config{Cells: 11, Slots: 8, Fuses: 2, Step: 20, Keys: 4, Erases: 3, Area: 1}
}

func bare() api.Config {
	return api.Config{Cells: 8, Slots: 1, Fuses: 2, Step: 50, Keys: 3, Erases: 3}
}

// single has a fuse for each value.
func single() api.Config {
	return api.Config{Cells: 6, Slots: 2, Fuses: 20, Step: 1, Keys: 3, Erases: 7, Area: 2}
}

func configs() []api.Config {
	return []api.Config{example(), several(), unerased(), tight(), bare(), single()}
}

func size(g api.Config) int { return 32 * g.Cells * g.Area }

func theOwn() []byte { return []byte("its own key") }

func secrets(known ...int) []api.Secret {
	var l []api.Secret
	for _, k := range known {
		l = append(l, api.Secret{Key: k, Bytes: secretOf(k)})
	}
	return l
}

// bench is a rom on its chip, with what it was told so far by the words: its events, what was handed off last, and a cut that waits.
type bench struct {
	chip   *chip.Chip
	rom    *rom.Rom
	known  []int
	own    []byte
	events []api.Event
	handed []int64 // a slot and a version; nothing, if nothing was
	cut    waiting
}

type waiting struct {
	is    bool
	ahead int
	mask  []byte
}

func blank(t *testing.T, g api.Config) *chip.Chip {
	t.Helper()
	c, e := chip.New(g)
	if e != api.OK {
		t.Fatalf("New(%+v): %v", g, e)
	}
	return c
}

func made(t *testing.T, g api.Config, known ...int) *bench {
	t.Helper()
	return on(t, blank(t, g), known...)
}

func on(t *testing.T, c *chip.Chip, known ...int) *bench {
	t.Helper()
	x := &bench{chip: c, known: known, own: theOwn()}
	x.mount(t)
	return x
}

// mount makes a rom anew: it does nothing, and begins without events.
func (x *bench) mount(t *testing.T) {
	t.Helper()
	s, acts := x.chip.State(), x.chip.Acts()
	r, e := rom.Mount(x.chip, secrets(x.known...), x.own)
	if e != api.OK || r == nil {
		t.Fatalf("Mount: %v", e)
	}
	if x.chip.Acts() != acts || !same(x.chip.State(), s) || x.chip.Out() {
		t.Fatal("Mount did something")
	}
	if l := r.Events(); len(l) != 0 {
		t.Fatalf("Mount: %d events", len(l))
	}
	x.rom, x.events, x.handed = r, nil, nil
}

// back makes sure that there is power, and mounts anew.
func (x *bench) back(t *testing.T) {
	t.Helper()
	x.cuts(-1, nil)
	x.chip.Restore()
	x.mount(t)
}

func (x *bench) cuts(n int, mask []byte) {
	x.chip.Cut(n, mask)
	x.cut = waiting{n >= 0, n, mask}
}

// off lets the power of a chip go, at an act that leaves nothing.
func (x *bench) off(t *testing.T) {
	t.Helper()
	x.chip.Cut(0, nil)
	x.cut = waiting{}
	if x.chip.Blow(0) != api.ErrPower || !x.chip.Out() {
		t.Fatal("the power is there")
	}
}

func (x *bench) words() words { return words{x.chip.Config(), x.chip.State(), x.known} }

// laid is what somebody has laid: cells of the log's pages, bytes of the areas, how often pages were erased, and fuses that are blown.
type laid struct {
	log    [2][]api.Cell
	areas  [2][]byte
	erases map[int]int
	blown  []int
}

func (y laid) on(t *testing.T, g api.Config, known ...int) *bench {
	t.Helper()
	s := blank(t, g).State()
	for p, cells := range y.log {
		copy(s.Pages[p], cells)
	}
	for n, b := range y.areas {
		for i, v := range b {
			s.Pages[2+n*g.Area+i/32/g.Cells][i/32%g.Cells][i%32] = v
		}
	}
	for p, n := range y.erases {
		s.Erases[p] = n
	}
	for _, i := range y.blown {
		s.Blown[i] = true
	}
	c, e := chip.Lay(g, s)
	if e != api.OK {
		t.Fatalf("Lay(%+v): %v", g, e)
	}
	return on(t, c, known...)
}

// fuseOf is the one by which a key is revoked.
func fuseOf(g api.Config, key int) int { return g.Slots*g.Fuses + key }

// The kinds of calls.
const (
	callRead = iota
	callBump
	callBumpTo
	callRevoke
	callRevoked
	callStage
	callBoot
	callStart
	callConfirm
	callQuote
	calls
)

// call is one of a rom's, with its arguments.
type call struct {
	kind int
	n    int
	v    int64
	b    []byte
}

func read(slot int) call              { return call{kind: callRead, n: slot} }
func bump(slot int) call              { return call{kind: callBump, n: slot} }
func bumpTo(slot int, v int64) call   { return call{kind: callBumpTo, n: slot, v: v} }
func revoke(key int) call             { return call{kind: callRevoke, n: key} }
func revoked(key int) call            { return call{kind: callRevoked, n: key} }
func stage(b []byte) call             { return call{kind: callStage, b: b} }
func boot(b []byte) call              { return call{kind: callBoot, b: b} }
func start() call                     { return call{kind: callStart} }
func confirm() call                   { return call{kind: callConfirm} }
func quoteWith(nonce []byte) call     { return call{kind: callQuote, b: nonce} }
func (a call) String() string         { return fmt.Sprintf("%s(%d, %d, %s)", a.name(), a.n, a.v, short(a.b)) }
func (a call) isOf(kinds ...int) bool { return slices.Contains(kinds, a.kind) }

func (a call) name() string {
	return []string{"Read", "Bump", "BumpTo", "Revoke", "Revoked", "Stage", "Boot", "Start", "Confirm", "Quote"}[a.kind]
}

func short(b []byte) string {
	if len(b) > 60 {
		return fmt.Sprintf("%x.. (%d bytes)", b[:60], len(b))
	}
	return fmt.Sprintf("%x", b)
}

// answer is what a call answers.
type answer struct {
	e  api.Errno
	v  int64
	is bool
	x  api.Image
	n  int
	h  api.Hash
}

func (a answer) equal(b answer) bool {
	return a.e == b.e && a.v == b.v && a.is == b.is && a.n == b.n && a.h == b.h && sameImage(a.x, b.x)
}

func sameImage(a, b api.Image) bool {
	return a.Slot == b.Slot && a.Key == b.Key && a.Version == b.Version && a.Tag == b.Tag && bytes.Equal(a.Payload, b.Payload)
}

func (a answer) String() string {
	return fmt.Sprintf("%d: %d %v; (slot %d, key %d, version %d, payload %s, tag %x), %d; %x", a.e, a.v, a.is, a.x.Slot, a.x.Key, a.x.Version, short(a.x.Payload), a.x.Tag, a.n, a.h)
}

// do makes a call.
func do(r *rom.Rom, a call) answer {
	var y answer
	switch a.kind {
	case callRead:
		y.v, y.e = r.Read(a.n)
	case callBump:
		y.v, y.e = r.Bump(a.n)
	case callBumpTo:
		y.e = r.BumpTo(a.n, a.v)
	case callRevoke:
		y.e = r.Revoke(a.n)
	case callRevoked:
		y.is, y.e = r.Revoked(a.n)
	case callStage:
		y.e = r.Stage(a.b)
	case callBoot:
		y.x, y.e = r.Boot(a.b)
	case callStart:
		y.x, y.n, y.e = r.Start()
	case callConfirm:
		y.e = r.Confirm()
	case callQuote:
		y.h = r.Quote(a.b)
	}
	return y
}

// below makes a call of a store or a loader.
func below(s *store.Store, l *loader.Loader, a call) answer {
	var y answer
	switch a.kind {
	case callRead:
		y.v, y.e = s.Read(a.n)
	case callBump:
		y.v, y.e = s.Bump(a.n)
	case callBumpTo:
		y.e = s.BumpTo(a.n, a.v)
	case callRevoke:
		y.e = s.Revoke(a.n)
	case callRevoked:
		y.is, y.e = s.Revoked(a.n)
	case callStage:
		y.e = l.Stage(a.b)
	}
	return y
}

// layers are a store and a loader of their own, on a chip.
func layers(t *testing.T, c *chip.Chip, known ...int) (*store.Store, *loader.Loader) {
	t.Helper()
	s, e := store.Mount(c)
	k, f, _ := keys.New(secrets(known...))
	if e != api.OK || f != api.OK {
		t.Fatal(e, f)
	}
	return s, loader.New(c, s, k)
}

// told is what the words say of a call: its answer, the acts that it does, and, behind it, the events and what was handed off last.
type told struct {
	answer answer
	acts   []act
	events []api.Event
	handed []int64
}

// tells is that of a rom with power, or without.
func (x *bench) tells(a call) told {
	y := told{events: x.events, handed: x.handed}
	if a.kind == callQuote {
		y.answer.h = quote(x.own, a.b, x.events)
		return y
	}
	if x.chip.Out() {
		y.answer.e = api.ErrPower
		return y
	}
	w := x.words()
	switch a.kind {
	case callRead, callBump, callBumpTo, callStage, callRevoke, callRevoked:
		y.answer, y.acts = w.below(a)
	case callBoot:
		im, e := w.check(a.b)
		y.tries(hashOf(a.b), answer{e: e, x: im})
	case callStart:
		im, n, e, b := w.start()
		var h api.Hash
		if e == api.OK {
			h = hashOf(b)
		}
		y.tries(h, answer{e: e, x: im, n: n})
	case callConfirm:
		if y.answer.e = api.ErrState; x.handed != nil {
			y.answer.e, y.acts = w.bumpTo(int(x.handed[0]), x.handed[1])
		}
	}
	return y
}

// below is what the store and the loader are to answer.
func (w words) below(a call) (answer, []act) {
	var y answer
	var l []act
	slot := 0 <= a.n && a.n < w.config.Slots
	key := 0 <= a.n && a.n < w.config.Keys
	switch {
	case a.kind == callStage:
		y.e, l = w.stage(a.b)
	case a.kind == callBumpTo:
		y.e, l = w.bumpTo(a.n, a.v)
	case a.isOf(callRead, callBump) && !slot, a.isOf(callRevoke, callRevoked) && !key:
		y.e = api.ErrRange
	case a.kind == callRead:
		y.v = w.value(a.n)
	case a.kind == callBump:
		if y.e, l = w.bumpTo(a.n, w.value(a.n)+1); y.e == api.OK {
			y.v = w.value(a.n) + 1
		}
	case a.kind == callRevoked:
		y.is = w.revoked(a.n)
	case !w.revoked(a.n):
		l = []act{{kind: "blow", fuse: w.config.Slots*w.config.Fuses + a.n}}
	}
	return y, l
}

// tries is a Boot or a Start that came to something.
func (y *told) tries(h api.Hash, a answer) {
	y.handed = nil
	if len(y.events) >= mostEvents {
		y.answer = answer{e: api.ErrMany}
		return
	}
	y.answer = a
	y.events = append(slices.Clone(y.events), api.Event{Digest: h, E: a.e})
	if a.e == api.OK {
		y.handed = []int64{int64(a.x.Slot), a.x.Version}
	}
}

// asks makes a call and holds it against the words: its answer, the acts, the whole chip, and the events; and what the store and the loader answer on a chip that is alike, against that too.
func (x *bench) asks(t *testing.T, a call) answer {
	t.Helper()
	want, w, acts, out := x.tells(a), x.words(), x.chip.Acts(), x.chip.Out()
	for i, y := range want.acts {
		acts++
		if x.cut.is && i == x.cut.ahead {
			w.done(y, x.cut.mask)
			want.answer, out = answer{e: api.ErrPower}, true
			break
		}
		w.done(y, ones())
	}
	x.cut.ahead -= len(want.acts)
	x.cut.is = x.cut.is && x.cut.ahead >= 0
	alike := x.chip.Copy()
	got := do(x.rom, a)
	if !got.equal(want.answer) {
		t.Fatalf("%v: %v, want %v", a, got, want.answer)
	}
	if x.chip.Acts() != acts || x.chip.Out() != out || !same(x.chip.State(), w.holds) {
		t.Fatalf("%v: %d acts, want %d; out %v, want %v; %v, want %v", a, x.chip.Acts(), acts, x.chip.Out(), out, x.chip.State(), w.holds)
	}
	if l := x.rom.Events(); !slices.Equal(l, want.events) {
		t.Fatalf("%v: events %v, want %v", a, l, want.events)
	}
	x.events, x.handed = want.events, want.handed
	if !alike.Out() && a.isOf(callRead, callBump, callBumpTo, callRevoke, callRevoked, callStage) {
		s, l := layers(t, alike, x.known...)
		if y := below(s, l, a); !y.equal(got) || alike.Acts() != acts || alike.Out() != out || !same(alike.State(), w.holds) {
			t.Fatalf("%v: %v, and below: %v", a, got, y)
		}
	}
	return got
}

// answers holds a call's error against one that the test has written out, and the words too.
func (x *bench) answers(t *testing.T, a call, want api.Errno) answer {
	t.Helper()
	got := x.asks(t, a)
	if got.e != want {
		t.Fatalf("%v: %v, want %v", a, got.e, want)
	}
	return got
}

// hands makes sure that a Boot hands off just that image.
func (x *bench) hands(t *testing.T, b []byte) {
	t.Helper()
	want, _ := form(b)
	if got := x.answers(t, boot(b), api.OK); !sameImage(got.x, want) {
		t.Fatalf("Boot(%s): %v", short(b), got)
	}
}

// starts makes sure that Start hands off just that image, of that area.
func (x *bench) starts(t *testing.T, b []byte, n int) {
	t.Helper()
	want, _ := form(b)
	if got := x.answers(t, start(), api.OK); !got.equal(answer{x: want, n: n}) {
		t.Fatalf("Start: %v, want %s of the area %d", got, short(b), n)
	}
}

// reads makes sure that a slot has that value.
func (x *bench) reads(t *testing.T, slot int, want int64) {
	t.Helper()
	if got := x.answers(t, read(slot), api.OK); got.v != want {
		t.Fatalf("Read(%d): %d, want %d", slot, got.v, want)
	}
}

// lastEvent makes sure what the event is that was added last, and how many there are.
func (x *bench) lastEvent(t *testing.T, count int, h api.Hash, e api.Errno) {
	t.Helper()
	l := x.rom.Events()
	if len(l) != count || l[count-1] != (api.Event{Digest: h, E: e}) {
		t.Fatalf("events: %v, want %d, the last one %x %v", l, count, h, e)
	}
}

func row(r *rand.Rand, n int) []byte {
	b := make([]byte, n)
	r.Read(b)
	return b
}

func turned(b []byte, bit int) []byte {
	c := slices.Clone(b)
	c[bit/8] ^= 1 << (bit % 8)
	return c
}

func masks(r *rand.Rand) [][]byte {
	return [][]byte{nil, {0}, ones(), {0x0f}, {0xff, 0x00}, {0x00, 0xff, 0xff}, row(r, 32), row(r, 7), row(r, 200)}
}
