package rom_test

import (
	"bytes"
	"math"
	"math/rand"
	"slices"
	"sync"
	"testing"

	"portcullis/api"
	"portcullis/chain"
	"portcullis/chip"
	"portcullis/rom"
)

// The chapter's images, of versions 1, 2, slot 0, key 0.
func imageA() []byte { return sized(0, 1, 60) }
func imageB() []byte { return sized(0, 2, 130) }

// P17.1: the chapter's examples, one behind the other.
func TestExamples(t *testing.T) {
	x := made(t, example(), 0)
	var zero api.Hash
	for i, y := range []struct {
		call   call
		want   api.Errno
		acts   int
		events int
		digest api.Hash // of the last event
	}{
		{confirm(), api.ErrState, 0, 0, zero},
		{boot(imageB()), api.OK, 0, 1, hashOf(imageB())},
		{confirm(), api.OK, 2, 1, hashOf(imageB())}, // the log's page is turned
		{read(0), api.OK, 2, 1, hashOf(imageB())},
		{boot(imageA()), api.ErrVersion, 2, 2, hashOf(imageA())},
		{confirm(), api.ErrState, 2, 2, hashOf(imageA())},
		{boot(nil), api.ErrShort, 2, 3, hashOf(nil)},
		{start(), api.ErrNone, 2, 4, zero},
		{confirm(), api.ErrState, 2, 4, zero},
	} {
		got := x.answers(t, y.call, y.want)
		if y.call.kind == callRead && got.v != 2 {
			t.Errorf("%d: Read: %d", i, got.v)
		}
		l := x.rom.Events()
		if x.chip.Acts() != y.acts || len(l) != y.events {
			t.Errorf("%d: %d acts, %d events", i, x.chip.Acts(), len(l))
		}
		if y.events > 0 && l[y.events-1].Digest != y.digest {
			t.Errorf("%d: the digest %x", i, l[y.events-1].Digest)
		}
	}
	want := []api.Event{{Digest: hashOf(imageB())}, {Digest: hashOf(imageA()), E: 16}, {Digest: hashOf(nil), E: 6}, {E: 17}}
	if l := x.rom.Events(); !slices.Equal(l, want) {
		t.Errorf("events: %v", l)
	}
	if _, e := rom.Mount(x.chip, secrets(0), nil); e != api.ErrBytes {
		t.Errorf("Mount with own of no bytes: %v", e)
	}
	if _, e := rom.Mount(x.chip, secrets(0, 0), theOwn()); e != api.ErrTwice {
		t.Errorf("Mount with the key 0 twice: %v", e)
	}
}

// W4, P17.3: the examples 7 and 9 of the document.
func TestExamplesOfTheWhole(t *testing.T) {
	x := made(t, api.Config{Cells: 8, Slots: 1, Fuses: 2, Step: 3, Keys: 1}, 0)
	x.hands(t, imageB())
	x.answers(t, bump(0), api.OK)
	x.hands(t, imageB())
	x.answers(t, bump(0), api.OK)
	x.hands(t, imageB())
	x.answers(t, confirm(), api.OK)
	x.reads(t, 0, 2)
	x.answers(t, boot(imageA()), api.ErrVersion)
	x.answers(t, revoke(0), api.OK)
	x.answers(t, boot(imageB()), api.ErrRevoked)
	x.mount(t)
	x.answers(t, boot(imageA()), api.ErrRevoked)

	x = made(t, api.Config{Cells: 8, Slots: 1, Fuses: 2, Step: 3, Keys: 1}, 0)
	x.hands(t, imageB())
	x.answers(t, boot(turned(imageB(), 8*20)), api.ErrTag)
	q := x.rom.Quote([]byte("n"))
	if e := chain.Check(theOwn(), []byte("n"), x.rom.Events(), q); e != api.OK {
		t.Errorf("the quote: %v", e)
	}
	if e := chain.Check(theOwn(), []byte("n"), x.rom.Events()[:1], q); e != api.ErrChain {
		t.Errorf("the quote, with one event less: %v", e)
	}
}

// many are so many secrets, of keys from 0 on.
func many(n int) []api.Secret {
	var l []api.Secret
	for k := range n {
		l = append(l, api.Secret{Key: k, Bytes: secretOf(k)})
	}
	return l
}

// wrongSecrets are those that keys.New refuses, by each of its errors, and such as it takes (OK).
func wrongSecrets() []struct {
	l    []api.Secret
	want api.Errno
} {
	return []struct {
		l    []api.Secret
		want api.Errno
	}{
		{nil, api.OK},
		{[]api.Secret{}, api.OK},
		{many(1), api.OK},
		{many(64), api.OK},
		{[]api.Secret{{Key: 63, Bytes: make([]byte, 256)}}, api.OK},
		{many(65), api.ErrMany},
		{make([]api.Secret, 65), api.ErrMany},
		{[]api.Secret{{Key: -1, Bytes: ones()}}, api.ErrRange},
		{[]api.Secret{{Key: 64, Bytes: ones()}}, api.ErrRange},
		{append(many(3), api.Secret{Key: 64}), api.ErrRange},
		{[]api.Secret{{Key: 0}}, api.ErrBytes},
		{append(many(3), api.Secret{Key: 9, Bytes: make([]byte, 257)}), api.ErrBytes},
		{append(many(3), api.Secret{Key: 2}), api.ErrBytes},
		{append(many(3), api.Secret{Key: 0, Bytes: ones()}), api.ErrTwice},
	}
}

// P17.1: Mount with each error of keys.New, with own of each length that matters, with and without power: the first of these errors is told, with nothing beside it, and nothing is done.
func TestMountErrors(t *testing.T) {
	seen := map[api.Errno]bool{}
	for i, y := range wrongSecrets() {
		for _, n := range []int{-1, 0, 1, 2, 64, 255, 256, 257, 300, 100000} {
			for _, out := range []bool{false, true} {
				own := make([]byte, max(n, 0))
				if n < 0 {
					own = nil
				}
				want := y.want
				if want == api.OK && (n < 1 || n > mostSecret) {
					want = api.ErrBytes
				}
				if want == api.OK && out {
					want = api.ErrPower
				}
				x := made(t, several(), 0)
				if out {
					x.off(t)
				}
				s, acts := x.chip.State(), x.chip.Acts()
				r, e := rom.Mount(x.chip, y.l, own)
				if e != want || (r == nil) != (want != api.OK) {
					t.Errorf("%d, own of %d bytes, power gone %v: %v, want %v", i, n, out, e, want)
				}
				if x.chip.Acts() != acts || x.chip.Out() != out || !same(x.chip.State(), s) {
					t.Errorf("%d, own of %d bytes: something was done", i, n)
				}
				seen[e] = true
			}
		}
	}
	if len(seen) != 6 {
		t.Errorf("%v", seen)
	}
}

// P17.1, W3: Mount is OK of whatever chip, does no act, leaves a cut as it waits; no event is there, and nothing was handed off.
func TestMountDoesNothing(t *testing.T) {
	r := rand.New(rand.NewSource(1))
	for i := range 120 {
		x := held(t, r, configs()[i%len(configs())])
		x.asks(t, start())
		x.asks(t, boot(imageA()))
		s := x.chip.State()
		x.chip.Cut(0, ones())
		for range 3 {
			y, e := rom.Mount(x.chip, secrets(0, 1, 2), x.own)
			if e != api.OK || len(y.Events()) != 0 || y.Quote([]byte("n")) != quote(x.own, []byte("n"), nil) {
				t.Fatalf("Mount: %v", e)
			}
			if e := y.Confirm(); e != api.ErrState {
				t.Fatalf("Confirm: %v", e)
			}
		}
		if x.chip.Acts() != 0 || x.chip.Out() || !same(x.chip.State(), s) {
			t.Fatal("Mount did something")
		}
		if e := x.chip.Blow(0); e != api.ErrPower {
			t.Fatalf("the cut waits no more: %v", e)
		}
	}
}

// P17.1, P10.4: a rom mounted anew tells what the one ahead of it told of what the chip holds.
func TestMountAnew(t *testing.T) {
	x := made(t, several(), 0, 1)
	x.answers(t, bumpTo(1, 23), api.OK)
	x.answers(t, revoke(1), api.OK)
	x.answers(t, stage(imageB()), api.OK)
	x.starts(t, imageB(), 1)
	x.mount(t)
	x.reads(t, 1, 23)
	if !x.answers(t, revoked(1), api.OK).is {
		t.Error("not revoked")
	}
	x.answers(t, confirm(), api.ErrState)
	x.starts(t, imageB(), 1)
	x.answers(t, confirm(), api.OK)
	x.reads(t, 0, 2)
}

// numbered are the calls of Read, Bump, BumpTo, Revoke and Revoked: with each slot and key that there is, and such as there aren't; with values at each edge.
func numbered(g api.Config) []call {
	var l []call
	last := int64(g.Step*g.Fuses + g.Step - 1)
	for _, n := range []int{math.MinInt, -1, 0, 1, g.Slots - 1, g.Slots, g.Slots + 1, g.Keys - 1, g.Keys, 63, 64, math.MaxInt} {
		l = append(l, read(n), bump(n), revoked(n), revoke(n), revoked(n))
		for _, v := range []int64{math.MinInt64, -1, 0, 1, 2, int64(g.Step) - 1, int64(g.Step), int64(g.Step) + 1, last - 1, last, last + 1, mostNumber, math.MaxInt64} {
			l = append(l, bumpTo(n, v))
		}
	}
	return l
}

// P17.1: Read, Bump, BumpTo, Revoke and Revoked answer what the store answers, and do its acts, over a row of calls in one order and in another.
func TestCounters(t *testing.T) {
	r := rand.New(rand.NewSource(2))
	seen := map[api.Errno]int{}
	for _, g := range configs() {
		for i := range 12 {
			g.Erases = []int{0, 3, 40}[i%3]
			x := made(t, g, 0)
			l := numbered(g)
			if i > 0 {
				r.Shuffle(len(l), func(i, j int) { l[i], l[j] = l[j], l[i] })
			}
			for _, a := range l {
				seen[x.asks(t, a).e]++
			}
		}
	}
	for _, e := range []api.Errno{api.OK, api.ErrRange, api.ErrSaturated, api.ErrWorn} {
		if seen[e] < 20 {
			t.Errorf("%d times %v", seen[e], e)
		}
	}
}

// some are images of each answer of the gate and of Stage, over a chip of several() that gated has made ready; in an order.
func some() []struct {
	name        string
	b           []byte
	boot, stage api.Errno
} {
	long, good := sized(0, 6, 481), sized(0, 6, 90)
	return []struct {
		name        string
		b           []byte
		boot, stage api.Errno
	}{
		{"good", good, api.OK, api.OK},
		{"of the slot 1", right(1, 2, 20, 7), api.OK, api.OK},
		{"at the last version", sized(0, 39, 90), api.OK, api.OK},
		{"longer than an area", long, api.OK, api.ErrBytes},
		{"more than an image", append(slices.Clone(long), make([]byte, mostBytes)...), api.ErrBytes, api.ErrBytes},
		{"none", nil, api.ErrShort, api.ErrShort},
		{"short", good[:89], api.ErrShort, api.ErrShort},
		{"of another form", turned(good, 0), api.ErrForm, api.ErrForm},
		{"zeros", make([]byte, 200), api.ErrForm, api.ErrForm},
		{"a byte behind", append(slices.Clone(good), 0), api.ErrRest, api.ErrRest},
		{"no slot of the chip", right(2, 0, 6), api.ErrForm, api.ErrForm},
		{"no key of the ring", right(0, 5, 6), api.ErrKey, api.ErrKey},
		{"no key of the chip", right(0, 3, 6), api.ErrKey, api.ErrKey},
		{"revoked", sized(1, 6, 90), api.ErrRevoked, api.ErrRevoked},
		{"signed by another", by(2, 0, 0, 6, []byte("p")), api.ErrTag, api.ErrTag},
		{"a bit of the payload", turned(good, 8*20), api.ErrTag, api.ErrTag},
		{"below the value", sized(0, 5, 90), api.ErrVersion, api.ErrVersion},
		{"below the other slot's", right(1, 0, 19), api.ErrVersion, api.ErrVersion},
		{"above the last version", sized(0, 40, 90), api.ErrVersion, api.ErrVersion},
		{"revoked, signed by another, below", by(2, 0, 1, 5, nil), api.ErrRevoked, api.ErrRevoked},
		{"signed by another, below", by(2, 0, 0, 5, nil), api.ErrTag, api.ErrTag},
	}
}

// gated is a chip whose slot 0 has the value 6 and whose slot 1 has 20, whose key 1 is revoked, and of which the key 3 is none; so what some tells is refused, or not.
func gated(t *testing.T) *bench {
	t.Helper()
	g := several()
	y := laid{blown: []int{fuseOf(g, 1), g.Fuses, g.Fuses + 2}}
	y.log[0] = []api.Cell{head(1), value(0, 6), value(2, 2)}
	return y.on(t, g, 0, 1, 2, 3)
}

// P17.1: Stage answers what the loader answers, and does its acts; it adds no event, and what was handed off last stays.
func TestStage(t *testing.T) {
	for _, y := range some() {
		x := gated(t)
		x.answers(t, stage(y.b), y.stage)
		x.asks(t, start())
		x.mount(t)
		x.hands(t, sized(0, 7, 70))
		x.answers(t, stage(y.b), y.stage)
		if len(x.rom.Events()) != 1 {
			t.Errorf("%s: an event", y.name)
		}
		x.answers(t, confirm(), api.OK)
		x.reads(t, 0, 7)
	}
	x := made(t, bare(), 0)
	x.answers(t, stage(imageA()), api.ErrBytes)
	x = made(t, unerased(), 0)
	for i := range 3 {
		want := api.OK
		if i == 2 {
			want = api.ErrWorn
		}
		x.answers(t, stage(sized(0, int64(i), 100)), want)
	}
	x.starts(t, sized(0, 1, 100), 0)
}

// P17.1, P17.2, W4: Boot of bytes that the gate refuses, by each of its errors, and of such as pass: the answer, the event, whether something was handed off; no act.
func TestBoot(t *testing.T) {
	seen := map[api.Errno]bool{}
	for _, y := range some() {
		for _, ahead := range []bool{false, true} { // was something handed off ahead of it?
			x := gated(t)
			count := 1
			if ahead {
				x.hands(t, sized(0, 30, 100))
				count = 2
			}
			x.chip.Cut(0, ones())
			got := x.answers(t, boot(y.b), y.boot)
			x.lastEvent(t, count, hashOf(y.b), y.boot)
			want, _ := form(y.b)
			if y.boot != api.OK {
				want = api.Image{}
			}
			if !got.equal(answer{e: y.boot, x: want}) || x.chip.Acts() != 0 || x.chip.Out() {
				t.Fatalf("%s: %v, %d acts", y.name, got, x.chip.Acts())
			}
			x.chip.Cut(-1, nil)
			if y.boot != api.OK {
				x.answers(t, confirm(), api.ErrState)
				continue
			}
			x.answers(t, confirm(), api.OK)
			x.reads(t, want.Slot, want.Version)
		}
		seen[y.boot] = true
	}
	if len(seen) != 9 {
		t.Errorf("%v", seen)
	}
}

// W4: of an image each bit turned, each byte cut off, and of rows by chance: just what passes the gate by the words is handed off; no act, though a cut waits.
func TestBootOfAnything(t *testing.T) {
	r := rand.New(rand.NewSource(3))
	x := gated(t)
	x.chip.Cut(0, ones())
	good := right(0, 0, 6, 1, 2, 3)
	ask := func(b []byte) {
		x.asks(t, boot(b))
		if len(x.events) > 900 {
			x.rom, x.events, x.handed = anew(t, x), nil, nil
		}
	}
	for bit := range 8 * len(good) {
		ask(turned(good, bit))
	}
	for n := range len(good) {
		ask(good[:n])
		ask(good[n:])
		ask(append(slices.Clone(good), good[:n]...))
	}
	for range 600 {
		ask(row(r, r.Intn(100)))
		ask(append(slices.Clone(good[:16]), row(r, 35)...))
		ask(anyImage(r, several()))
	}
	for _, n := range []int{mostBytes, mostBytes + 1, 2 * mostBytes} {
		ask(make([]byte, n))
	}
	ask(sized(0, 8, mostBytes))
	if x.chip.Acts() != 0 || x.chip.Out() {
		t.Errorf("%d acts", x.chip.Acts())
	}
}

func anew(t *testing.T, x *bench) *rom.Rom {
	t.Helper()
	y, e := rom.Mount(x.chip, secrets(x.known...), x.own)
	if e != api.OK {
		t.Fatal(e)
	}
	return y
}

// P17.1: Start on an empty chip, of an image in either area, in both of them, of what is refused: the answer, the event (of just the image's bytes, whatever lies behind it), and what was handed off; no act.
func TestStart(t *testing.T) {
	g := several()
	one, two := sized(0, 7, 60), right(1, 2, 21, 5, 6, 7)
	behind := append(slices.Clone(one), 1, 2, 3)
	named := func(n int64) []api.Cell { return []api.Cell{head(1), value(0, 6), value(2, n)} }
	for i, y := range []struct {
		laid laid
		want []byte // nothing: ErrNone
		area int
	}{
		{laid{}, nil, 0},
		{laid{areas: [2][]byte{one, nil}}, one, 0},
		{laid{areas: [2][]byte{nil, one}}, one, 1},
		{laid{areas: [2][]byte{one, two}}, one, 0},
		{laid{areas: [2][]byte{two, one}}, two, 0},
		{laid{areas: [2][]byte{behind, nil}}, one, 0},
		{laid{areas: [2][]byte{nil, append(slices.Clone(two), one...)}}, two, 1},
		{laid{log: [2][]api.Cell{named(3)}, areas: [2][]byte{one, two}}, two, 1},
		{laid{log: [2][]api.Cell{named(4)}, areas: [2][]byte{one, two}}, one, 0},
		{laid{log: [2][]api.Cell{named(3)}, areas: [2][]byte{one, nil}}, one, 0},
		{laid{log: [2][]api.Cell{named(3)}, areas: [2][]byte{one, turned(two, 8*17)}}, one, 0},
		{laid{log: [2][]api.Cell{named(4)}, areas: [2][]byte{sized(0, 5, 60), two}}, two, 1},
		{laid{log: [2][]api.Cell{named(4)}, areas: [2][]byte{sized(1, 7, 60), two}}, two, 1},
		{laid{areas: [2][]byte{sized(1, 7, 60), turned(one, 8*59)}}, nil, 0},
		{laid{areas: [2][]byte{right(0, 3, 7), right(2, 0, 7)}}, nil, 0},
		{laid{areas: [2][]byte{sized(0, 40, 60), make([]byte, 480)}}, nil, 0},
		{laid{areas: [2][]byte{sized(0, 39, 480), nil}}, sized(0, 39, 480), 0},
	} {
		y.laid.blown = []int{fuseOf(g, 1)}
		x := y.laid.on(t, g, 0, 1, 2, 3)
		x.hands(t, sized(0, 30, 60))
		x.chip.Cut(0, ones())
		if y.want == nil {
			got := x.answers(t, start(), api.ErrNone)
			if !got.equal(answer{e: api.ErrNone}) {
				t.Errorf("%d: %v", i, got)
			}
			x.lastEvent(t, 2, api.Hash{}, api.ErrNone)
			x.answers(t, confirm(), api.ErrState)
		} else {
			x.starts(t, y.want, y.area)
			x.lastEvent(t, 2, hashOf(y.want), api.OK)
		}
		if x.chip.Acts() != 0 || x.chip.Out() {
			t.Errorf("%d: %d acts", i, x.chip.Acts())
		}
		x.chip.Cut(-1, nil)
		if y.want != nil {
			x.answers(t, confirm(), api.OK)
			im, _ := form(y.want)
			x.reads(t, im.Slot, im.Version)
		}
	}
}

// P17.1: what Stage has laid Start hands off, with the event of its bytes.
func TestStageAndStart(t *testing.T) {
	for _, g := range configs() {
		if g.Area == 0 {
			continue
		}
		x := made(t, g, 0)
		x.answers(t, start(), api.ErrNone)
		for i := range 2 {
			b := sized(0, int64(3+i), min(48+70*i, size(g)))
			x.answers(t, stage(b), api.OK)
			x.starts(t, b, 1-i)
			x.lastEvent(t, 2+i, hashOf(b), api.OK)
			x.answers(t, confirm(), api.OK)
			x.reads(t, 0, int64(3+i))
		}
	}
}

// filledUp is a rom with so many events; what was handed off last is the image of the version 7.
func filledUp(t *testing.T, x *bench, n int) {
	t.Helper()
	for len(x.events) < n-1 {
		b := []byte{byte(len(x.events)), byte(len(x.events) >> 8)}
		_, e := x.rom.Boot(b)
		x.events = append(x.events, api.Event{Digest: hashOf(b), E: e})
		if e != api.ErrForm && e != api.ErrShort {
			t.Fatal(e)
		}
	}
	x.hands(t, sized(0, 7, 70))
}

// P17.1, W4: Boot and Start behind 1023 events add one more; behind 1024 they answer ErrMany, whatever they are handed, add none, do no act, and nothing is handed off any more. A rom that is mounted anew has room again.
func TestManyEvents(t *testing.T) {
	for _, a := range []call{boot(imageB()), boot(sized(0, 6, 90)), boot(nil), boot(sized(1, 6, 90)), boot(make([]byte, mostBytes+1)), start()} {
		for _, staged := range []bool{false, true} {
			x := gated(t)
			if staged {
				x.answers(t, stage(sized(0, 9, 100)), api.OK)
			}
			filledUp(t, x, mostEvents-1)
			x.asks(t, a)
			if len(x.rom.Events()) != mostEvents {
				t.Fatalf("%v behind 1023: %d events", a, len(x.rom.Events()))
			}
			x = gated(t)
			if staged {
				x.answers(t, stage(sized(0, 9, 100)), api.OK)
			}
			filledUp(t, x, mostEvents)
			was, acts := x.rom.Events(), x.chip.Acts()
			x.chip.Cut(0, ones())
			for range 2 {
				if got := x.answers(t, a, api.ErrMany); !got.equal(answer{e: api.ErrMany}) {
					t.Fatalf("%v behind 1024: %v", a, got)
				}
				x.answers(t, confirm(), api.ErrState)
			}
			if l := x.rom.Events(); !slices.Equal(l, was) || len(l) != 1024 || x.chip.Acts() != acts {
				t.Fatalf("%v behind 1024: %d events", a, len(l))
			}
			x.asks(t, quoteWith([]byte("n")))
			x.chip.Cut(-1, nil)
			x.mount(t)
			x.hands(t, sized(0, 8, 60))
			x.answers(t, confirm(), api.OK)
		}
	}
}

// P17.1: all else goes on behind 1024 events; a Confirm of what was handed off with the last one is answered.
func TestBehindManyEvents(t *testing.T) {
	x := gated(t)
	filledUp(t, x, mostEvents)
	x.answers(t, confirm(), api.OK)
	x.reads(t, 0, 7)
	for _, a := range []call{bump(1), bumpTo(0, 8), revoke(2), revoked(2), stage(sized(0, 9, 100)), quoteWith(nil), confirm()} {
		x.answers(t, a, api.OK)
	}
	x.answers(t, start(), api.ErrMany)
	x.answers(t, confirm(), api.ErrState)
}

// each is a call of each kind, with each error that may be beside that of the power.
func each() []call {
	l := []call{
		read(0), read(-1), read(2), bump(0), bump(1), bump(-1), bump(2), revoke(0), revoke(1), revoke(-1), revoke(3), revoked(0), revoked(1), revoked(-1), revoked(3),
		bumpTo(0, 3), bumpTo(0, 9), bumpTo(0, 39), bumpTo(0, 40), bumpTo(0, -1), bumpTo(2, 9), bumpTo(-1, 9), start(), confirm(),
	}
	for _, y := range some() {
		l = append(l, boot(y.b), stage(y.b))
	}
	return l
}

// worn is a chip of several() whose log is full, and can't be turned any more.
func worn(t *testing.T) *bench {
	t.Helper()
	g := several()
	y := laid{erases: map[int]int{0: g.Erases, 1: g.Erases}, blown: []int{fuseOf(g, 1)}}
	y.log[0] = []api.Cell{head(1), value(0, 6), value(0, 5), value(1, 20), value(1, 3)}
	y.log[1] = []api.Cell{filled(0x33)}
	y.areas[0] = sized(0, 7, 60)
	return y.on(t, g, 0, 1, 2, 3)
}

// R2: without power each call tells that first, whatever else is wrong, with nothing beside it; nothing is done, no event is added, and what was handed off last is as it was.
func TestPower(t *testing.T) {
	for i, made := range []func(t *testing.T) *bench{gated, worn} {
		for _, count := range []int{0, 1, 1024} {
			for _, handed := range []bool{false, true} {
				x := made(t)
				if count > 0 {
					filledUp(t, x, count)
				}
				if !handed {
					x.asks(t, boot(nil))
				}
				x.off(t)
				s, acts, events := x.chip.State(), x.chip.Acts(), x.rom.Events()
				for _, a := range each() {
					if got := do(x.rom, a); !got.equal(answer{e: api.ErrPower}) {
						t.Fatalf("%v: %v", a, got)
					}
					x.asks(t, a)
				}
				if x.chip.Acts() != acts || !x.chip.Out() || !same(x.chip.State(), s) || !slices.Equal(x.rom.Events(), events) {
					t.Fatal("something was done without power")
				}
				x.chip.Restore()
				want := api.ErrState
				if handed && count > 0 {
					want = []api.Errno{api.OK, api.ErrWorn}[i]
				}
				x.answers(t, confirm(), want)
			}
		}
	}
	for _, g := range configs() {
		x := made(t, g, 0)
		x.off(t)
		for _, a := range each() {
			if got := do(x.rom, a); !got.equal(answer{e: api.ErrPower}) {
				t.Fatalf("%v of a blank chip: %v", a, got)
			}
		}
	}
}

// P17.1: the power comes again, and the same rom goes on, with its events and what was handed off.
func TestRestored(t *testing.T) {
	x := gated(t)
	x.hands(t, sized(0, 7, 70))
	x.off(t)
	x.answers(t, boot(nil), api.ErrPower)
	x.answers(t, boot(sized(0, 8, 70)), api.ErrPower)
	x.answers(t, start(), api.ErrPower)
	x.answers(t, confirm(), api.ErrPower)
	x.chip.Restore()
	if l := x.rom.Events(); len(l) != 1 {
		t.Fatalf("%d events", len(l))
	}
	x.answers(t, confirm(), api.OK)
	x.reads(t, 0, 7)
	x.hands(t, sized(0, 8, 70))
	x.lastEvent(t, 2, hashOf(sized(0, 8, 70)), api.OK)
}

// P17.1: Confirm with nothing handed off: at first, behind a Boot or a Start that was refused (also one ahead of which something was handed off), behind all other calls.
func TestConfirmOfNothing(t *testing.T) {
	for _, y := range some() {
		x := gated(t)
		x.answers(t, confirm(), api.ErrState)
		for _, a := range []call{read(0), bump(0), bumpTo(0, 7), revoked(0), revoke(2), stage(sized(0, 7, 70)), quoteWith(nil)} {
			x.answers(t, a, api.OK)
			x.answers(t, confirm(), api.ErrState)
		}
		x.starts(t, sized(0, 7, 70), 1)
		if x.tells(boot(y.b)).answer.e == api.OK {
			continue
		}
		x.asks(t, boot(y.b))
		x.answers(t, confirm(), api.ErrState)
		x.answers(t, confirm(), api.ErrState)
	}
	x := made(t, example(), 0)
	x.hands(t, imageA())
	x.answers(t, start(), api.ErrNone)
	x.answers(t, confirm(), api.ErrState)
	x.reads(t, 0, 0)
}

// P17.1: Confirm behind a Boot and behind a Start that was answered OK; twice in a row; with the slot's value below, at and above the version; with a key revoked in between.
func TestConfirm(t *testing.T) {
	for _, by := range []string{"Boot", "Start"} {
		for _, between := range []int64{0, 6, 7, 8, 9, 10, 17, 18, 19, 20, 39} {
			for _, again := range []int{1, 2, 3} {
				x := gated(t)
				b := sized(0, 18, 70)
				if by == "Start" {
					x.answers(t, stage(b), api.OK)
					x.starts(t, b, 1)
				} else {
					x.hands(t, b)
				}
				x.answers(t, bumpTo(0, between), api.OK)
				x.answers(t, revoke(0), api.OK)
				acts := x.chip.Acts()
				for range again {
					x.answers(t, confirm(), api.OK)
				}
				x.reads(t, 0, max(18, between))
				x.reads(t, 1, 20)
				if between >= 18 && x.chip.Acts() != acts {
					t.Errorf("%d acts", x.chip.Acts()-acts)
				}
				if len(x.rom.Events()) != 1 {
					t.Errorf("%d events", len(x.rom.Events()))
				}
			}
		}
	}
}

// P17.1: what was handed off last is confirmed, not what was ahead of it; it stays so, whatever is called but a Boot or a Start.
func TestConfirmOfTheLast(t *testing.T) {
	x := gated(t)
	for _, y := range []struct {
		slot    int
		version int64
	}{{0, 9}, {1, 25}, {0, 8}, {1, 22}, {0, 12}} {
		b := right(y.slot, 0, y.version, 1, 2)
		if x.tells(boot(b)).answer.e != api.OK {
			continue
		}
		x.hands(t, right(1-y.slot, 2, 38))
		x.hands(t, b)
		for _, a := range []call{read(0), bump(-1), bumpTo(0, 999), revoked(1), revoke(1), stage(nil), quoteWith(nil)} {
			x.asks(t, a)
		}
		x.answers(t, confirm(), api.OK)
		x.reads(t, y.slot, y.version)
	}
	x.reads(t, 0, 12)
	x.reads(t, 1, 25)
}

// P17.1: the errors of store.BumpTo, as far as one comes: ErrWorn, time and again; no version that was handed off is above the last one, or below 0, so neither ErrSaturated nor ErrRange does: at the last version Confirm is OK.
func TestConfirmErrors(t *testing.T) {
	x := worn(t)
	x.hands(t, sized(0, 7, 60))
	for range 3 {
		x.answers(t, confirm(), api.ErrWorn)
	}
	x.reads(t, 0, 6)
	x.hands(t, sized(0, 6, 60))
	x.answers(t, confirm(), api.OK) // no act is needed
	x.starts(t, sized(0, 7, 60), 0)
	x.answers(t, confirm(), api.ErrWorn)
	for _, g := range configs() {
		x := made(t, g, 0)
		last := int64(g.Step*g.Fuses + g.Step - 1)
		x.answers(t, boot(right(0, 0, last+1)), api.ErrVersion)
		x.answers(t, confirm(), api.ErrState)
		x.hands(t, right(0, 0, last))
		x.answers(t, confirm(), api.OK)
		x.reads(t, 0, last)
		x.answers(t, bump(0), api.ErrSaturated)
		x.answers(t, confirm(), api.OK)
		x.hands(t, right(0, 0, last))
		if last > 0 {
			x.answers(t, boot(right(0, 0, last-1)), api.ErrVersion)
		}
	}
	x = made(t, example(), 0)
	x.hands(t, right(0, 0, 0))
	x.answers(t, confirm(), api.OK)
	if x.chip.Acts() != 0 {
		t.Errorf("Confirm of the version 0: %d acts", x.chip.Acts())
	}
}

// again is a bench on a copy of the chip, whose rom has handed off what this one has.
func (x *bench) again(t *testing.T) *bench {
	t.Helper()
	y := on(t, x.chip.Copy(), x.known...)
	if x.handed != nil {
		y.hands(t, right(int(x.handed[0]), 0, x.handed[1]))
	}
	return y
}

// P17.1: the power goes at each act of each operation, with masks of zeros, of ones and mixed ones: the acts one by one, bit by bit; restored, the same rom's Confirm goes on; restored and mounted, the values are those that were, or the new ones.
func TestCutAtEach(t *testing.T) {
	r := rand.New(rand.NewSource(4))
	for _, a := range []call{bump(0), bump(1), bumpTo(0, 9), bumpTo(0, 33), bumpTo(1, 39), revoke(0), revoke(2), confirm(), stage(sized(0, 30, 200)), stage(right(1, 0, 30))} {
		for _, full := range []bool{false, true} {
			x := gated(t)
			if full {
				x.answers(t, bump(0), api.OK)
				x.answers(t, bump(1), api.OK)
			}
			x.hands(t, right(0, 0, 35))
			acts := x.tells(a).acts
			if len(acts) == 0 {
				t.Fatalf("%v: no act", a)
			}
			was := [2]int64{x.words().value(0), x.words().value(1)}
			for at := range len(acts) + 1 {
				for _, mask := range masks(r) {
					y := x.again(t)
					y.cuts(at, mask)
					e := y.asks(t, a).e
					if at == len(acts) {
						if e != api.OK {
							t.Fatalf("%v, cut behind its last act: %v", a, e)
						}
						continue
					}
					if e != api.ErrPower {
						t.Fatalf("%v, cut at its act %d: %v", a, at, e)
					}
					cutBehind(t, y, a, was)
				}
			}
		}
	}
}

// cutBehind looks at a rom at one of whose calls the power went.
func cutBehind(t *testing.T, y *bench, a call, was [2]int64) {
	t.Helper()
	for _, b := range []call{read(0), boot(right(0, 0, 35)), start(), confirm()} {
		y.answers(t, b, api.ErrPower)
	}
	y.chip.Restore()
	goesOn := on(t, y.chip.Copy(), y.known...)
	y.answers(t, confirm(), api.OK) // the rom that was there ahead of the cut
	y.reads(t, 0, 35)
	goesOn.answers(t, confirm(), api.ErrState)
	for slot := range 2 {
		v := goesOn.asks(t, read(slot)).v
		to := was[slot]
		switch {
		case a.kind == callBump && a.n == slot:
			to++
		case a.kind == callBumpTo && a.n == slot:
			to = a.v
		case a.kind == callConfirm && slot == 0:
			to = 35
		}
		if v != was[slot] && v != to {
			t.Fatalf("%v: the value %d, was %d", a, v, was[slot])
		}
	}
	goesOn.asks(t, boot(right(0, 2, 36)))
	goesOn.asks(t, start())
	goesOn.asks(t, confirm())
	goesOn.asks(t, a)
}

// never makes sure that no image of a slot below a version is handed off: neither by Boot, nor by Start.
func (x *bench) never(t *testing.T, slot int, version int64) {
	t.Helper()
	for v := range version {
		if version > 12 && v > 3 && v < version-3 {
			continue
		}
		for key := range 3 {
			if e := x.asks(t, boot(right(slot, key, v, byte(v)))).e; e != api.ErrVersion && e != api.ErrRevoked && e != api.ErrKey {
				t.Fatalf("the version %d of the slot %d, below %d: %v", v, slot, version, e)
			}
		}
	}
	if got := x.asks(t, start()); got.e == api.OK && got.x.Slot == slot && got.x.Version < version {
		t.Fatalf("Start: the version %d of the slot %d, below %d", got.x.Version, slot, version)
	}
}

// P17.3: behind a Confirm that was answered OK no image of that slot with a lesser version is handed off any more, with the power cut at each act of the Confirms, Bumps, Stages and Revokes behind it, restored and mounted anew; that of another slot is.
func TestNeverBack(t *testing.T) {
	r := rand.New(rand.NewSource(5))
	g := several()
	g.Erases = 9
	begun := made(t, g, 0, 1, 2)
	begun.answers(t, stage(sized(0, 3, 100)), api.OK)
	begun.answers(t, stage(sized(0, 4, 100)), api.OK)
	begun.hands(t, right(0, 0, 5))
	begun.answers(t, confirm(), api.OK)
	begun.never(t, 0, 5)
	begun.hands(t, right(1, 0, 0))
	begun.hands(t, right(0, 0, 5))
	for _, a := range []call{confirm(), bump(0), bump(1), bumpTo(0, 12), bumpTo(1, 39), stage(sized(0, 6, 150)), stage(right(1, 0, 1)), revoke(0), revoke(1)} {
		for _, b := range []call{bump(1), bump(0), stage(sized(2, 9, 60))} {
			for at := range 12 {
				for _, mask := range masks(r) {
					x := begun.again(t)
					if a.kind == callConfirm {
						x.hands(t, right(0, 1, 11))
					}
					x.cuts(at, mask)
					x.asks(t, a)
					x.back(t)
					x.never(t, 0, 5)
					x.cuts(at/2, mask)
					x.asks(t, b)
					x.back(t)
					x.never(t, 0, 5)
				}
			}
		}
	}
}

// anyImage is one that may be started more often than not.
func anyImage(r *rand.Rand, g api.Config) []byte {
	key, slot, version := r.Intn(3), r.Intn(g.Slots), r.Int63n(12)
	b := right(slot, key, version, row(r, r.Intn(max(size(g)-47, 20)))...)
	switch r.Intn(14) {
	case 0:
		return nil
	case 1:
		return turned(b, r.Intn(8*len(b)))
	case 2:
		return append(b, row(r, r.Intn(200))...)
	case 3:
		return b[:r.Intn(len(b))]
	case 4:
		return row(r, r.Intn(100))
	case 5:
		return by(r.Intn(4), slot, key, version, nil)
	}
	return b
}

// held is a chip on which anything lies.
func held(t *testing.T, r *rand.Rand, g api.Config) *bench {
	t.Helper()
	y := laid{erases: map[int]int{}}
	for p := range y.log {
		for i := range r.Intn(g.Cells + 1) {
			x := value(r.Intn(g.Slots+1), 1+r.Int63n(6))
			switch r.Intn(9) {
			case 0:
				x = filled(0xff)
			case 1:
				x = api.Cell(row(r, 32))
			case 2:
				x = value(g.Slots, mostNumber-r.Int63n(3))
			}
			if i == 0 && r.Intn(6) > 0 {
				x = head([]int64{1, 2, 3, mostNumber - 1, mostNumber}[r.Intn(5)])
			}
			y.log[p] = append(y.log[p], x)
		}
	}
	for n := range y.areas {
		y.areas[n] = anyImage(r, g)
		if len(y.areas[n]) > size(g) {
			y.areas[n] = y.areas[n][:size(g)]
		}
	}
	for p := range 2 + 2*g.Area {
		if r.Intn(3) == 0 {
			y.erases[p] = r.Intn(g.Erases + 2)
		}
	}
	for i := range g.Slots*g.Fuses + g.Keys {
		if r.Intn(6) == 0 {
			y.blown = append(y.blown, i)
		}
	}
	return y.on(t, g, 0, 1, 2)
}

// anyCall is one of any kind.
func anyCall(r *rand.Rand, g api.Config) call {
	a := call{kind: r.Intn(calls)}
	switch a.kind {
	case callRead, callBump:
		a.n = r.Intn(g.Slots+2) - 1
	case callBumpTo:
		a.n, a.v = r.Intn(g.Slots+2)-1, r.Int63n(14)-1
		if r.Intn(9) == 0 {
			a.v *= 100
		}
	case callRevoke:
		if a.n = r.Intn(12) - 1; a.n < 6 { // seldom, so that images are left that may be started
			return read(0)
		}
		a.n = r.Intn(g.Keys+2) - 1
	case callRevoked:
		a.n = r.Intn(g.Keys+2) - 1
	case callStage, callBoot:
		a.b = anyImage(r, g)
	case callQuote:
		a.b = row(r, r.Intn(40))
	}
	return a
}

// P17.1, R1: over whatever a chip holds all calls answer by the words, and do just their acts.
func TestAnyChips(t *testing.T) {
	r := rand.New(rand.NewSource(6))
	seen := map[[2]int]int{}
	for i := range 500 {
		g := configs()[i%len(configs())]
		x := held(t, r, g)
		for range 12 {
			a := anyCall(r, g)
			seen[[2]int{a.kind, int(x.asks(t, a).e)}]++
		}
	}
	atLeast(t, seen, [][2]api.Errno{{callRead, api.OK}, {callBump, api.OK}, {callBump, api.ErrWorn}, {callBumpTo, api.ErrSaturated}, {callRevoke, api.OK}, {callRevoked, api.OK},
		{callStage, api.OK}, {callStage, api.ErrWorn}, {callStage, api.ErrBytes}, {callStage, api.ErrTag}, {callBoot, api.OK}, {callBoot, api.ErrForm}, {callBoot, api.ErrShort},
		{callBoot, api.ErrRest}, {callBoot, api.ErrTag}, {callBoot, api.ErrVersion}, {callBoot, api.ErrRevoked}, {callStart, api.OK}, {callStart, api.ErrNone}, {callConfirm, api.OK}, {callConfirm, api.ErrState}})
}

func atLeast(t *testing.T, seen map[[2]int]int, l [][2]api.Errno) {
	t.Helper()
	for _, y := range l {
		if seen[[2]int{int(y[0]), int(y[1])}] < 2 {
			t.Errorf("%s: %d: %d times", call{kind: int(y[0])}.name(), y[1], seen[[2]int{int(y[0]), int(y[1])}])
		}
	}
}

// W2, P17.1, P17.3: rows of calls over chips that began blank, cut more often than not, restored with and without a mount: all by the words; what was confirmed stays, and no value falls.
func TestScripts(t *testing.T) {
	r := rand.New(rand.NewSource(7))
	seen := map[[2]int]int{}
	for i := range 180 {
		g := configs()[i%len(configs())]
		g.Erases = r.Intn(40)
		x := made(t, g, 0, 1, 2)
		least := make([]int64, g.Slots)
		for range 40 {
			if ms := masks(r); r.Intn(3) == 0 {
				x.cuts(r.Intn(9), ms[r.Intn(len(ms))])
			}
			a := anyCall(r, g)
			if r.Intn(5) == 0 {
				a = confirm()
			}
			got := x.asks(t, a)
			seen[[2]int{a.kind, int(got.e)}]++
			if a.kind == callConfirm && got.e == api.OK {
				least[x.handed[0]] = max(least[x.handed[0]], x.handed[1])
			}
			if a.isOf(callBoot, callStart) && got.e == api.OK && got.x.Version < least[got.x.Slot] {
				t.Fatalf("%v: the version %d of the slot %d, behind %d", a, got.x.Version, got.x.Slot, least[got.x.Slot])
			}
			if x.chip.Out() && r.Intn(3) > 0 {
				x.chip.Restore()
				if r.Intn(3) > 0 {
					x.back(t)
				}
			}
			for slot := range g.Slots {
				if v := x.asks(t, read(slot)); v.e == api.OK {
					if v.v < least[slot] {
						t.Fatalf("the value %d of the slot %d, behind %d", v.v, slot, least[slot])
					}
					least[slot] = v.v
				}
			}
		}
	}
	atLeast(t, seen, [][2]api.Errno{{callBump, api.ErrPower}, {callStage, api.ErrPower}, {callConfirm, api.ErrPower}, {callConfirm, api.OK}, {callConfirm, api.ErrState}, {callBoot, api.OK}, {callBoot, api.ErrPower}, {callBoot, api.ErrVersion}, {callStart, api.OK}, {callStart, api.ErrPower}, {callRevoke, api.ErrPower}})
}

// W6: right behind a Stage at which the power went, restored and mounted, Start hands off what it would have handed off ahead of it, or what was staged.
func TestStageCut(t *testing.T) {
	r := rand.New(rand.NewSource(8))
	g := several()
	g.Erases = 9
	x := made(t, g, 0)
	x.answers(t, stage(imageA()), api.OK)
	b := sized(0, 2, 300)
	for at := range len(x.tells(stage(b)).acts) {
		for _, mask := range masks(r) {
			y := x.again(t)
			y.cuts(at, mask)
			y.answers(t, stage(b), api.ErrPower)
			y.back(t)
			got := y.asks(t, start())
			old, _ := form(imageA())
			next, _ := form(b)
			if !got.equal(answer{x: old, n: 1}) && !got.equal(answer{x: next, n: 0}) {
				t.Fatalf("a cut at the act %d: %v", at, got)
			}
		}
	}
}

// W4: a key revoked and a counter bumped between two Boots of one image, and between two Starts.
func TestBetweenBoots(t *testing.T) {
	for _, y := range []struct {
		between call
		want    api.Errno
	}{
		{read(0), api.OK}, {bumpTo(0, 9), api.OK}, {bumpTo(0, 10), api.OK}, {bumpTo(0, 11), api.ErrVersion}, {bumpTo(1, 39), api.OK},
		{revoke(0), api.ErrRevoked}, {revoke(1), api.OK}, {revoke(2), api.OK}, {bumpTo(0, 39), api.ErrVersion},
	} {
		for _, anew := range []bool{false, true} {
			x := made(t, several(), 0, 1)
			b := sized(0, 10, 80)
			x.answers(t, stage(b), api.OK)
			x.hands(t, b)
			x.starts(t, b, 1)
			x.answers(t, y.between, api.OK)
			if anew {
				x.mount(t)
			}
			x.answers(t, boot(b), y.want)
			if y.want != api.OK {
				x.answers(t, start(), api.ErrNone)
				x.answers(t, confirm(), api.ErrState)
			} else {
				x.starts(t, b, 1)
			}
		}
	}
}

// P17.1, W8: Events and Quote of no events and of some, with and without power, held against a log of chain with the same events, and against the words.
func TestEventsAndQuote(t *testing.T) {
	r := rand.New(rand.NewSource(9))
	for _, own := range [][]byte{{7}, row(r, 63), row(r, 64), row(r, 65), row(r, 256)} {
		x := gated(t)
		x.own = own
		x.mount(t)
		x.answers(t, stage(sized(0, 7, 60)), api.OK)
		beside := chain.New()
		for i := range 30 {
			if i%7 == 3 {
				x.asks(t, start())
				beside.Add(api.Event{Digest: hashOf(sized(0, 7, 60))})
			} else if i > 0 {
				y := some()[i%len(some())]
				x.answers(t, boot(y.b), y.boot)
				beside.Add(api.Event{Digest: hashOf(y.b), E: y.boot})
			}
			if i%5 == 4 {
				x.off(t)
			}
			for _, nonce := range [][]byte{nil, {}, {0}, {1}, []byte("nonce"), row(r, 64), row(r, 1000)} {
				q := x.rom.Quote(nonce)
				x.asks(t, quoteWith(nonce))
				if q != beside.Quote(own, nonce) || chain.Check(own, nonce, x.rom.Events(), q) != api.OK {
					t.Fatalf("%d events, the nonce %x: %x", i, nonce, q)
				}
				if chain.Check(append([]byte{1}, own...), nonce, x.rom.Events(), q) != api.ErrChain || chain.Check(own, append([]byte{1}, nonce...), x.rom.Events(), q) != api.ErrChain {
					t.Fatal("a quote for others")
				}
			}
			if !slices.Equal(x.rom.Events(), beside.Events()) {
				t.Fatalf("%d events: %v", i, x.rom.Events())
			}
			x.chip.Restore()
		}
	}
}

// R4: two roms beside one another on two chips: none touches the other.
func TestTwoRoms(t *testing.T) {
	r := rand.New(rand.NewSource(10))
	x, y := made(t, several(), 0, 1, 2), made(t, example(), 0, 1)
	y.own = []byte("another")
	y.mount(t)
	for range 300 {
		a := anyCall(r, several())
		was, events := y.chip.State(), y.rom.Events()
		x.asks(t, a)
		if !same(y.chip.State(), was) || !slices.Equal(y.rom.Events(), events) {
			t.Fatalf("%v touches the other one", a)
		}
		y.asks(t, anyCall(r, example()))
		x.asks(t, quoteWith([]byte("n")))
		y.asks(t, quoteWith([]byte("n")))
		y.asks(t, confirm())
	}
	x.off(t)
	y = made(t, example(), 0)
	y.hands(t, imageB())
	y.answers(t, confirm(), api.OK)
	x.answers(t, confirm(), api.ErrPower)
}

// R4: two roms over chips that hold the same answer the same, whatever else was asked of others in between.
func TestOneAnswer(t *testing.T) {
	r := rand.New(rand.NewSource(11))
	for i := range 60 {
		g := configs()[i%len(configs())]
		x := held(t, r, g)
		y := on(t, x.chip.Copy(), x.known...)
		for range 8 {
			a := anyCall(r, g)
			one := x.asks(t, a)
			made(t, several(), 0).hands(t, imageB())
			y.rom.Events()
			y.rom.Quote(nil)
			if two := y.asks(t, a); !one.equal(two) || !same(x.chip.State(), y.chip.State()) {
				t.Fatalf("%v: %v %v", a, one, two)
			}
		}
	}
}

// room tells bytes with spare room behind them, and all of it.
func room(b []byte) (in, all []byte) {
	all = slices.Concat(b, bytes.Repeat([]byte{0xa5}, 70))
	return all[:len(b)], all
}

// spoil turns all bytes of a row, and those of its spare room.
func spoil(b []byte) {
	all := b[:cap(b)]
	for i := range all {
		all[i] ^= 0x5a
	}
}

// P17.4, R3: bytes and nonces that are handed in stay as they were, also in the room behind their length, and the rom is as it was when they are written over later.
func TestBytesUnchanged(t *testing.T) {
	for _, y := range some() {
		for _, kind := range []int{callBoot, callStage, callQuote} {
			x := gated(t)
			in, all := room(y.b)
			was := slices.Clone(all)
			x.asks(t, call{kind: kind, b: in})
			if !bytes.Equal(all, was) {
				t.Fatalf("%s: changed", y.name)
			}
			s := x.chip.State()
			spoil(all)
			if !same(x.chip.State(), s) || !slices.Equal(x.rom.Events(), x.events) {
				t.Fatalf("%s: kept", y.name)
			}
			x.asks(t, quoteWith([]byte("n")))
			x.asks(t, confirm())
			x.asks(t, start())
			x.asks(t, boot(y.b))
		}
	}
}

// P17.4, R3: the secrets and the own key stay as they were, whatever Mount answers; the rom is as it was when they are written over later.
func TestSecretsUnchanged(t *testing.T) {
	for _, want := range []api.Errno{api.OK, api.ErrTwice, api.ErrBytes, api.ErrPower} {
		x := gated(t)
		var all [][]byte
		list := make([]api.Secret, 0, 9)
		for k := range 4 {
			in, b := room(secretOf(k))
			list, all = append(list, api.Secret{Key: k, Bytes: in}), append(all, b)
		}
		own, b := room(theOwn())
		all = append(all, b)
		switch want {
		case api.ErrTwice:
			list[3].Key = 0
		case api.ErrBytes:
			own = own[:0]
		case api.ErrPower:
			x.off(t)
		}
		rest := list[4:9]
		for i := range rest {
			rest[i] = api.Secret{Key: 40 + i, Bytes: ones()}
		}
		var was [][]byte
		for _, b := range all {
			was = append(was, slices.Clone(b))
		}
		y, e := rom.Mount(x.chip, list, own)
		if e != want {
			t.Fatalf("Mount: %v, want %v", e, want)
		}
		for i, b := range all {
			if !bytes.Equal(b, was[i]) {
				t.Fatalf("the bytes %d have changed", i)
			}
			spoil(b)
		}
		for i := range rest {
			if rest[i].Key != 40+i || len(rest[i].Bytes) != 1 {
				t.Fatal("the room behind the secrets has changed")
			}
		}
		clear(list)
		if e == api.OK {
			x.rom, x.events, x.handed = y, nil, nil
			x.asks(t, quoteWith([]byte("n")))
			x.hands(t, sized(0, 7, 60))
			x.hands(t, right(1, 2, 30))
			x.answers(t, stage(sized(2, 7, 60)), api.OK)
			x.starts(t, sized(2, 7, 60), 1)
			x.answers(t, boot(right(0, 40, 7)), api.ErrKey)
			x.asks(t, quoteWith([]byte("n")))
		}
	}
}

// P17.4, R3: what Events, Boot and Start answer is its owner's: written over, appended to, the rom and its later answers are as they were.
func TestAnswersApart(t *testing.T) {
	for _, n := range []int{48, 49, 80, 200} {
		x := gated(t)
		b := sized(0, 7, n)
		x.answers(t, stage(b), api.OK)
		in := slices.Clone(b)
		one, two := x.asks(t, boot(in)), x.asks(t, boot(in))
		three, four := x.asks(t, start()), x.asks(t, start())
		s := x.chip.State()
		spoil(one.x.Payload)
		spoil(three.x.Payload)
		_ = append(one.x.Payload, 1, 2, 3)
		_ = append(three.x.Payload, 1, 2, 3)
		want, _ := form(b)
		if !bytes.Equal(in, b) || !sameImage(two.x, want) || !sameImage(four.x, want) || !same(x.chip.State(), s) {
			t.Fatalf("%d bytes: not apart", n)
		}
		spoil(in)
		if !sameImage(two.x, want) {
			t.Fatalf("%d bytes: not apart from what was handed in", n)
		}
		first, second := x.rom.Events(), x.rom.Events()
		all := first[:cap(first)]
		for i := range all {
			all[i] = api.Event{Digest: api.Hash{1, 2, 3}, E: 99}
		}
		_ = append(first, api.Event{E: 98})
		if !slices.Equal(second, x.events) || !slices.Equal(x.rom.Events(), x.events) {
			t.Fatal("the events are not apart")
		}
		x.asks(t, quoteWith([]byte("n")))
		x.starts(t, b, 1)
		x.hands(t, b)
		if !slices.Equal(second, x.events[:4]) {
			t.Fatal("a later event is seen in an answer")
		}
		x.answers(t, confirm(), api.OK)
		x.reads(t, 0, 7)
	}
}

// R4: many ask one rom, and many use roms of their own, at one time.
func TestManyAtOneTime(t *testing.T) {
	x := gated(t)
	x.hands(t, sized(0, 7, 60))
	events, q := x.rom.Events(), x.rom.Quote([]byte("n"))
	var bad [8]bool
	var all sync.WaitGroup
	for i := range bad {
		mine := on(t, x.chip.Copy(), x.known...)
		all.Go(func() {
			for k := range 60 {
				v, e := x.rom.Read(0)
				is, f := x.rom.Revoked(1)
				bad[i] = bad[i] || v != 6 || e != api.OK || !is || f != api.OK || !slices.Equal(x.rom.Events(), events) || x.rom.Quote([]byte("n")) != q
				version := int64(6 + (i+k)/4)
				im, e := mine.rom.Boot(right(0, 0, version))
				bad[i] = bad[i] || e != api.OK || im.Version != version
				e = mine.rom.Confirm()
				bad[i] = bad[i] || e != api.OK && e != api.ErrWorn
			}
		})
	}
	all.Wait()
	if bad != [8]bool{} {
		t.Errorf("%v", bad)
	}
}

// R1: each call of a chip of the greatest config ends, with the longest image.
func TestGreatest(t *testing.T) {
	g := api.Config{Cells: 256, Slots: 8, Fuses: 64, Step: 65536, Keys: 64, Erases: 65536, Area: 64}
	c, e := chip.New(g)
	if e != api.OK {
		t.Fatal(e)
	}
	r, e := rom.Mount(c, many(64), make([]byte, mostSecret))
	if e != api.OK {
		t.Fatal(e)
	}
	last := int64(65536*64 + 65535)
	payload := make([]byte, mostBytes-48)
	b := right(7, 63, last, payload...)
	if e := r.Stage(b); e != api.OK || c.Acts() != mostBytes/32+2 {
		t.Fatalf("Stage: %v, %d acts", e, c.Acts())
	}
	x, n, e := r.Start()
	if want, _ := form(b); !sameImage(x, want) || n != 1 || e != api.OK {
		t.Fatalf("Start: %d, %v", n, e)
	}
	if l := r.Events(); len(l) != 1 || l[0] != (api.Event{Digest: hashOf(b)}) {
		t.Fatalf("events: %v", l)
	}
	if e := r.Confirm(); e != api.OK || c.Acts() != mostBytes/32+2+1+64 {
		t.Fatalf("Confirm: %v, %d acts", e, c.Acts())
	}
	if v, e := r.Read(7); v != last || e != api.OK {
		t.Fatalf("Read: %d, %v", v, e)
	}
}

// The errors that come here and the limits have the numbers that the document gives.
func TestNumbers(t *testing.T) {
	got := [16]api.Errno{api.ErrRange, api.ErrMany, api.ErrBytes, api.ErrForm, api.ErrShort, api.ErrRest, api.ErrPower, api.ErrWorn, api.ErrSaturated, api.ErrState, api.ErrKey, api.ErrRevoked, api.ErrTag, api.ErrVersion, api.ErrNone, api.ErrTwice}
	if got != [16]api.Errno{2, 3, 4, 5, 6, 7, 8, 9, 10, 11, 13, 14, 15, 16, 17, 18} || api.OK != 0 {
		t.Errorf("errors: %d", got)
	}
	if got := [4]int{api.MaxEvents, api.MaxSecret, api.MaxImage, api.MaxKeys}; got != [4]int{mostEvents, mostSecret, mostBytes, 64} {
		t.Errorf("limits: %d", got)
	}
}
