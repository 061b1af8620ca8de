package loader_test

import (
	"bytes"
	"fmt"
	"math/rand"
	"slices"
	"sync"
	"testing"

	"portcullis/api"
	"portcullis/area"
	"portcullis/chip"
	"portcullis/gate"
	"portcullis/loader"
)

// The chapter's images, of versions 1, 2, 3, key 0.
func imageA() []byte { return sized(0, 1, 60) }
func imageB() []byte { return sized(0, 2, 130) }
func imageC() []byte { return sized(0, 3, 200) }

// exampled is the chip behind the chapter's first example.
func exampled(t *testing.T) *bench {
	t.Helper()
	x := made(t, example(), 0, 1)
	x.answers(t, imageA(), api.OK)
	x.answers(t, imageB(), api.OK)
	return x
}

// P15.1, P15.2: the chapter's examples 1 and 4, one behind the other.
func TestExamples(t *testing.T) {
	x := made(t, example(), 0, 1)
	x.tellsNone(t)
	for i, y := range []struct {
		b      []byte
		want   api.Errno
		acts   int
		active int64
		starts []byte
		area   int
	}{
		{imageA(), api.OK, 2 + 2, 1, imageA(), 1},                           // the log's page is turned
		{imageB(), api.OK, 5 + 1, 2, imageB(), 0},                           // a record
		{turned(imageC(), 8*199), api.ErrTag, 0, 2, imageB(), 0},            // the tag
		{turned(imageC(), 8*20), api.ErrTag, 0, 2, imageB(), 0},             // the payload
		{sized(0, 3, 600), api.ErrBytes, 0, 2, imageB(), 0},                 // longer than an area
		{imageC(), api.OK, 1 + 7 + 1, 3, imageC(), 1},                       // over A
		{imageA(), api.OK, 1 + 2 + 1, 4, imageA(), 0},                       // an older one, which no counter forbids
		{imageA(), api.OK, 1 + 2 + 1, 5, imageA(), 1},                       // the same again
		{right(0, 0, 300), api.ErrVersion, 0, 5, imageA(), 1},               // above the last one
		{sized(1, 5, 512), api.OK, 1 + 16 + 1, 6, sized(1, 5, 512), 0},      // of another key, and of an area's size
		{sized(1, 5, 513), api.ErrBytes, 0, 6, sized(1, 5, 512), 0},         // one byte more
		{by(0, 0, 1, 5, []byte{1}), api.ErrTag, 0, 6, sized(1, 5, 512), 0},  // another key's tag
		{by(7, 0, 7, 5, []byte{1}), api.ErrKey, 0, 6, sized(1, 5, 512), 0},  // no key of the ring
		{by(0, 1, 0, 5, []byte{1}), api.ErrForm, 0, 6, sized(1, 5, 512), 0}, // no slot of the chip
	} {
		acts := x.chip.Acts()
		x.answers(t, y.b, y.want)
		if n := x.chip.Acts() - acts; n != y.acts {
			t.Errorf("%d: %d acts, want %d", i, n, y.acts)
		}
		x.active(t, y.active)
		x.tells(t, y.starts, y.area)
	}
}

// P15.1, P15.2: the chapter's example 2.
func TestExampleOfCuts(t *testing.T) {
	for _, y := range []struct {
		at     int
		mask   []byte
		starts []byte
		area   int
	}{{0, []byte{0}, imageB(), 0}, {0, ones, imageB(), 0}, {7, ones, imageB(), 0}, {8, []byte{0}, imageB(), 0}, {8, []byte{0x0f}, imageB(), 0}, {8, ones, imageC(), 1}} {
		x := exampled(t)
		acts := x.chip.Acts()
		x.chip.Cut(y.at, y.mask)
		if e := x.loader.Stage(imageC()); e != api.ErrPower || x.chip.Acts() != acts+y.at+1 || !x.chip.Out() {
			t.Fatalf("a cut at the act %d: %v, %d acts", y.at, e, x.chip.Acts()-acts)
		}
		x.chip.Restore()
		x.tells(t, y.starts, y.area)
		x.mount(t)
		x.tells(t, y.starts, y.area)
	}
	x := exampled(t)
	x.chip.Cut(9, ones)
	x.answers(t, imageC(), api.OK)
	x.tells(t, imageC(), 1)
}

// P15.1, P15.3: the chapter's example 3.
func TestExampleOfRevoking(t *testing.T) {
	for _, y := range []struct {
		value int64
		is    bool
	}{{0, true}, {3, true}, {4, true}, {5, false}, {100, false}} {
		x := made(t, example(), 0, 1)
		a, b := sized(1, 4, 70), sized(0, 200, 80)
		x.answers(t, a, api.OK)
		x.answers(t, b, api.OK)
		x.raise(t, 0, y.value)
		x.tells(t, b, 0)
		x.revoke(t, 0)
		if y.is {
			x.tells(t, a, 1)
		} else {
			x.tellsNone(t)
		}
	}
}

// P15.2: the eighth example of the document: an update is cut at any act; behind the last one the new image is told.
func TestExampleOfTheWhole(t *testing.T) {
	g := api.Config{Cells: 8, Slots: 1, Fuses: 2, Step: 3, Keys: 1, Erases: 2, Area: 1}
	x := made(t, g, 0)
	old, next := sized(0, 1, 100), sized(0, 2, 256)
	x.answers(t, old, api.OK)
	for at := range 10 {
		y := x.again(t)
		y.chip.Cut(at, ones)
		e := y.loader.Stage(next)
		y.chip.Restore()
		if e == api.OK && at == 9 || e == api.ErrPower && at == 8 {
			y.tells(t, next, 0)
		} else if e == api.ErrPower && at < 8 {
			y.tells(t, old, 1)
		} else {
			t.Fatalf("a cut at the act %d: %v", at, e)
		}
	}
}

// some are images of each answer of the gate, over a chip of several() that gated has made ready.
func some() map[string][]byte {
	long := sized(0, 6, 481)
	return map[string][]byte{
		"good":                  sized(0, 6, 90),
		"too long":              long,
		"more than an image":    append(slices.Clone(long), make([]byte, mostBytes)...),
		"none":                  nil,
		"short":                 sized(0, 6, 90)[:89],
		"of another form":       turned(sized(0, 6, 90), 0),
		"a byte behind":         append(sized(0, 6, 90), 0),
		"slot":                  right(2, 0, 6),
		"key":                   right(0, 5, 6),
		"key of the ring":       right(0, 3, 6),
		"revoked":               sized(1, 6, 90),
		"tag":                   by(2, 0, 0, 6, []byte("p")),
		"version":               sized(0, 5, 90),
		"version above":         sized(0, 40, 90),
		"too long, tag":         turned(long, 8*480),
		"too long, version":     sized(0, 5, 600),
		"too long, revoked":     sized(1, 6, 600),
		"too long, a byte more": append(slices.Clone(long), 0),
	}
}

func someWant() map[string]api.Errno {
	return map[string]api.Errno{
		"good": api.OK, "too long": api.ErrBytes, "more than an image": api.ErrBytes, "none": api.ErrShort, "short": api.ErrShort,
		"of another form": api.ErrForm, "a byte behind": api.ErrRest, "slot": api.ErrForm, "key": api.ErrKey, "key of the ring": api.ErrKey,
		"revoked": api.ErrRevoked, "tag": api.ErrTag, "version": api.ErrVersion, "version above": api.ErrVersion,
		"too long, tag": api.ErrTag, "too long, version": api.ErrVersion, "too long, revoked": api.ErrRevoked, "too long, a byte more": api.ErrRest,
	}
}

// gated is a chip whose slot 0 has the value 6, whose key 1 is revoked, and of which the key 3 is none; so what some tells is refused, or not. The wear is as it is told; the area 1 holds nothing that may be started, the area 0 does, if started says so.
func gated(t *testing.T, target, log, started bool) *bench {
	t.Helper()
	g := several()
	y := laid{erases: map[int]int{}, blown: []int{fuseOf(g, 1)}}
	y.log[0] = []api.Cell{head(1), value(0, 6), value(2, 2)}
	if started {
		y.areas[0] = sized(0, 7, 60)
	}
	if target {
		y.areas[1] = []byte{1}
		y.erases[2+g.Area] = g.Erases
	}
	if log {
		y.log[0] = []api.Cell{head(2), value(0, 6), value(2, 2), value(1, 1), value(1, 2)}
		y.log[1] = []api.Cell{value(0, 1)}
		y.erases[1] = g.Erases
	}
	return y.on(t, g, 0, 1, 2, 3)
}

// P15.1, P15.4: a Stage that the gate refuses, by each of its errors, tells that ahead of all that is told of wear and of the size; a Stage that is refused has done no act.
func TestOrderOfErrors(t *testing.T) {
	for name, b := range some() {
		for i := range 8 {
			target, log, started := i&1 > 0, i&2 > 0, i&4 > 0
			want := someWant()[name]
			if want == api.OK && (target || log) {
				want = api.ErrWorn
			}
			x := gated(t, target, log, started)
			was := x.start()
			x.answers(t, b, want)
			if want != api.OK && !x.start().is(was) {
				t.Errorf("%s: a Stage that is refused changes what Start tells", name)
			}
		}
	}
	for _, e := range []api.Errno{api.OK, api.ErrBytes, api.ErrForm, api.ErrShort, api.ErrRest, api.ErrKey, api.ErrRevoked, api.ErrTag, api.ErrVersion} {
		found := false
		for _, want := range someWant() {
			found = found || want == e
		}
		if !found {
			t.Errorf("none of %v", e)
		}
	}
}

// R2: without power that is told first, whatever else is wrong, and nothing is done.
func TestPower(t *testing.T) {
	for i := range 8 {
		x := gated(t, i&1 > 0, i&2 > 0, i&4 > 0)
		x.off(t)
		s, acts := x.chip.State(), x.chip.Acts()
		for range 2 {
			if got := x.start(); !got.is(told{e: api.ErrPower}) {
				t.Fatalf("Start: %v", got)
			}
			for name, b := range some() {
				if e := x.loader.Stage(b); e != api.ErrPower {
					t.Fatalf("Stage, %s: %v", name, e)
				}
			}
			x.loader = loader.New(x.chip, x.store, x.ring)
		}
		if x.chip.Acts() != acts || !x.chip.Out() || !same(x.chip.State(), s) {
			t.Fatal("something was done without power")
		}
	}
	for _, g := range append(configs(), bare()) {
		x := made(t, g, 0)
		x.off(t)
		if got := x.start(); !got.is(told{e: api.ErrPower}) {
			t.Fatalf("Start of a blank chip: %v", got)
		}
		if e := x.loader.Stage(sized(0, 1, 50)); e != api.ErrPower {
			t.Fatalf("Stage on a blank chip: %v", e)
		}
	}
}

// P15.1: a loader that was made while the power was gone answers as any other one, once it is back.
func TestMadeWithoutPower(t *testing.T) {
	x := made(t, several(), 0)
	x.off(t)
	x.loader = loader.New(x.chip, x.store, x.ring)
	x.chip.Restore()
	x.tellsNone(t)
	x.answers(t, imageA(), api.OK)
	x.tells(t, imageA(), 1)
	x.off(t)
	x.loader = loader.New(x.chip, x.store, x.ring)
	x.chip.Restore()
	x.tells(t, imageA(), 1)
	x.answers(t, imageB(), api.OK)
	x.tells(t, imageB(), 0)
}

// content is what an area may hold, and whether that may be started.
type content struct {
	b    []byte
	held []byte // the image, if it may be; else nothing
}

// contents are for a chip of several() with the key 1 revoked, the slot 0 at 6 and the slot 1 at 20, and a ring of the keys 0, 1, 3.
func contents() map[string]content {
	one, other, greatest := sized(0, 7, 60), right(1, 0, 20, []byte("other")...), sized(0, 39, 480)
	l := map[string]content{
		"one":                {one, one},
		"other":              {other, other},
		"greatest":           {greatest, greatest},
		"least version":      {right(0, 0, 6), right(0, 0, 6)},
		"something behind":   {append(slices.Clone(one), 0, 1, 2, 3), one},
		"another one behind": {append(slices.Clone(other), one...), other},
	}
	for name, b := range map[string][]byte{
		"nothing": nil, "tag": turned(one, 8*59), "payload": turned(one, 8*17), "signed by another": by(3, 0, 0, 7, nil),
		"revoked": sized(1, 7, 60), "version": sized(0, 5, 60), "version of its slot": right(1, 0, 19), "version above": right(0, 0, 40),
		"no key of the ring": right(0, 2, 7), "no key of the chip": right(0, 3, 7), "no slot": right(2, 0, 7),
		"no head": turned(one, 8), "zeros": make([]byte, 480), "longer than it": turned(greatest, 8*13+1), "ends early": one[:59],
		"not at the beginning": append([]byte{0xff}, one...), "not in the first cell": append(bytes.Repeat(ones, 32), one...),
	} {
		l[name] = content{b, nil}
	}
	return l
}

// P15.1: Start of each of these in the first of the areas in order and each in the second one; Active even and odd, 0 and 2^62.
func TestStart(t *testing.T) {
	g := several()
	for _, active := range []int64{0, 1, 2, 3, 1 << 32, 1<<32 + 1, mostNumber - 1, mostNumber} {
		first := int(active % 2)
		for one, a := range contents() {
			for two, b := range contents() {
				y := laid{blown: []int{fuseOf(g, 1), g.Fuses, g.Fuses + 2}}
				y.log[1] = append(named(g, active), value(0, 6))
				if active == 0 {
					y.log[1] = []api.Cell{head(1), value(0, 6)}
				}
				y.areas[first], y.areas[1-first] = a.b, b.b
				x := y.on(t, g, 0, 1, 3)
				x.active(t, active)
				switch {
				case a.held != nil:
					x.tells(t, a.held, first)
				case b.held != nil:
					x.tells(t, b.held, 1-first)
				default:
					x.tellsNone(t)
				}
				if t.Failed() {
					t.Fatalf("Active %d, %s, %s", active, one, two)
				}
			}
		}
	}
}

// P15.1: Stage over each of these: the target is the other area than the one that Start tells, or the second one of the areas in order; a number is laid just if it is not the first one.
func TestTarget(t *testing.T) {
	g := several()
	next := sized(0, 9, 100)
	for _, active := range []int64{0, 1, 2, 3, mostNumber - 2, mostNumber - 1, mostNumber} {
		first := int(active % 2)
		for one, a := range contents() {
			for two, b := range contents() {
				y := laid{blown: []int{fuseOf(g, 1), g.Fuses, g.Fuses + 2}}
				y.log[0] = append(named(g, active), value(0, 6))
				if active == 0 {
					y.log[0] = []api.Cell{head(1), value(0, 6)}
				}
				y.areas[first], y.areas[1-first] = a.b, b.b
				x := y.on(t, g, 0, 1, 3)
				to, want, behind := 1-first, api.OK, active+1
				switch {
				case a.held == nil && b.held != nil:
					to, behind = first, active
				case active == mostNumber:
					want = api.ErrWorn
				}
				was := x.words().bytes(1 - to)
				x.answers(t, next, want)
				if want == api.OK {
					x.tells(t, next, to)
					x.active(t, behind)
				}
				if !bytes.Equal(x.words().bytes(1-to), was) || t.Failed() {
					t.Fatalf("Active %d, %s, %s: the other area", active, one, two)
				}
			}
		}
	}
}

// sided is a chip of several() of which Start tells the first of the areas in order (the target is then not the first one), the second one (the target is the first one), or none (it is the second one).
func sided(starts string, active int64) laid {
	y := laid{erases: map[int]int{}}
	first := int(active % 2)
	switch starts {
	case "first":
		y.areas[first] = sized(0, 1, 60)
	case "second":
		y.areas[1-first] = sized(0, 1, 60)
	case "both":
		y.areas[first], y.areas[1-first] = sized(0, 1, 60), sized(0, 2, 60)
	}
	return y
}

// roomOf is a state of the log, and whether one number more can be laid.
type roomOf struct {
	name   string
	log    [2][]api.Cell
	erases [2]int
	active int64
	is     bool
}

// rooms are states of the log of a chip of several(): 5 cells a page, slots 0 to 2 of the log, Erases 4.
func rooms() []roomOf {
	full := func(generation, active int64) []api.Cell {
		return []api.Cell{head(generation), value(1, 1), value(1, 2), value(2, active), value(1, 3)}
	}
	used := []api.Cell{filled(0xff), filled(0xff), filled(0x7f)}
	torn := []api.Cell{{}}
	return []roomOf{
		{"blank", [2][]api.Cell{}, [2]int{}, 0, true},
		{"blank, erased often", [2][]api.Cell{}, [2]int{9, 9}, 0, true},
		{"free, not worn", [2][]api.Cell{full(1, 3)[:4]}, [2]int{}, 3, true},
		{"free, and worn", [2][]api.Cell{full(1, 3)[:4], used}, [2]int{4, 4}, 3, true},
		{"full, not worn: the other one is blank", [2][]api.Cell{full(1, 4)}, [2]int{7, 7}, 4, true},
		{"full, not worn: one erase more", [2][]api.Cell{full(1, 4), used}, [2]int{4, 3}, 4, true},
		{"full, and worn", [2][]api.Cell{full(1, 4), used}, [2]int{0, 4}, 4, false},
		{"full, and worn, odd", [2][]api.Cell{full(1, 5), used}, [2]int{0, 4}, 5, false},
		{"full, and worn, more than that", [2][]api.Cell{full(1, 4), used}, [2]int{0, 5}, 4, false},
		{"the page 1 full, not worn", [2][]api.Cell{full(1, 3), full(2, 5)}, [2]int{3, 4}, 5, true},
		{"the page 1 full, and worn", [2][]api.Cell{full(1, 3), full(2, 5)}, [2]int{4, 0}, 5, false},
		{"none is present, not worn", [2][]api.Cell{torn, torn}, [2]int{3, 4}, 0, true},
		{"none is present, and worn", [2][]api.Cell{torn, torn}, [2]int{4, 3}, 0, false},
		{"none is present, the page 0 blank", [2][]api.Cell{nil, torn}, [2]int{4, 4}, 0, true},
		{"the last generation, full", [2][]api.Cell{full(mostNumber, 4)}, [2]int{}, 4, false},
		{"the last generation, free", [2][]api.Cell{full(mostNumber, 4)[:4]}, [2]int{}, 4, true},
		{"the generation ahead of it, full", [2][]api.Cell{full(mostNumber-1, 4)}, [2]int{}, 4, true},
		{"the last number, free", [2][]api.Cell{full(1, mostNumber)[:4]}, [2]int{}, mostNumber, false},
		{"the last number, full", [2][]api.Cell{full(1, mostNumber)}, [2]int{}, mostNumber, false},
		{"the last number, full, and worn", [2][]api.Cell{full(1, mostNumber), used}, [2]int{4, 4}, mostNumber, false},
		{"the number ahead of it, free", [2][]api.Cell{full(1, mostNumber-1)[:4]}, [2]int{}, mostNumber - 1, true},
		{"the number ahead of it, full", [2][]api.Cell{full(1, mostNumber-1)}, [2]int{}, mostNumber - 1, true},
		{"the number ahead of it, full, and worn", [2][]api.Cell{full(1, mostNumber-1), used}, [2]int{0, 4}, mostNumber - 1, false},
	}
}

// P15.1, P15.4: where the log couldn't lay one number more, a Stage is refused, if its target is not the first one of the areas in order; if it is, the log is not asked, and nothing is laid in it.
func TestRoomInTheLog(t *testing.T) {
	g := several()
	next := sized(0, 9, 200)
	for _, z := range rooms() {
		for _, starts := range []string{"first", "both", "none", "second"} {
			y := sided(starts, z.active)
			y.log, y.erases[0], y.erases[1] = z.log, z.erases[0], z.erases[1]
			x := y.on(t, g, 0)
			x.active(t, z.active)
			want, to, behind := api.OK, 1-int(z.active%2), z.active+1
			if starts == "second" {
				to, behind = 1-to, z.active
			} else if !z.is {
				want = api.ErrWorn
			}
			s := x.chip.State()
			if e := x.stages(t, next); e != want {
				t.Fatalf("%s, Start tells the %s: %v, want %v", z.name, starts, e, want)
			}
			if want != api.OK {
				if !same(x.chip.State(), s) || x.chip.Acts() != 0 {
					t.Fatalf("%s, Start tells the %s: something was done", z.name, starts)
				}
				continue
			}
			x.tells(t, next, to)
			x.active(t, behind)
			if now := x.chip.State(); starts == "second" && !slices.EqualFunc(now.Pages[:2], s.Pages[:2], slices.Equal) {
				t.Fatalf("%s: the log has changed", z.name)
			}
		}
	}
}

// P15.1, P15.4: a target that is worn is refused, whichever page of it is, whichever cell; the other area's wear matters not.
func TestWornAreas(t *testing.T) {
	g := several()
	next := sized(0, 9, 50)
	for _, active := range []int64{0, 1, 6, 7} {
		for _, starts := range []string{"first", "second", "both", "none"} {
			to := 1 - int(active%2)
			if starts == "second" {
				to = 1 - to
			}
			for page := 2; page < 8; page++ {
				for _, erases := range []int{0, 3, 4, 5} {
					for at := -1; at < g.Cells; at++ {
						y := sided(starts, active)
						y.log[0] = named(g, active)
						y.erases[page] = erases
						x := y.on(t, g, 0)
						if at >= 2 || page != 2 && page != 5 { // the image that is started lies in the first two cells
							x = spoilt(t, x, page, at)
						}
						want := api.OK
						if w := x.words(); page/5 == to && erases >= 4 && w.used(page) {
							want = api.ErrWorn
						}
						x.answers(t, next, want)
						if want == api.OK {
							x.tells(t, next, to)
						}
					}
				}
			}
		}
	}
}

// spoilt is the same chip with one bit of a cell programmed; nothing, if the cell is below 0.
func spoilt(t *testing.T, x *bench, page, at int) *bench {
	t.Helper()
	if at < 0 {
		return x
	}
	s := x.chip.State()
	s.Pages[page][at][31] &= 0x7f
	c, e := chip.Lay(x.chip.Config(), s)
	if e != api.OK {
		t.Fatal(e)
	}
	return on(t, c, x.known...)
}

// P15.1: both areas worn out by Stages: the last image that was staged stays, and is told.
func TestWornOut(t *testing.T) {
	for _, g := range configs() {
		g.Cells += 200 // the log has room
		x := made(t, g, 0)
		count := 0
		var last []byte
		for ; count < 100; count++ {
			b := sized(0, int64(count), 90)
			if e := x.stages(t, b); e == api.ErrWorn {
				break
			} else if e != api.OK {
				t.Fatal(e)
			}
			last = b
		}
		if want := 2 * (g.Erases + 1); count != want {
			t.Errorf("%+v: %d Stages, want %d", g, count, want)
		}
		for range 3 {
			x.answers(t, sized(0, 20, 48), api.ErrWorn)
			x.mount(t)
			x.tells(t, last, count%2)
		}
	}
}

// P15.1: of each number of bytes, from the least image on to one of just an area's size, and beyond it.
func TestSizes(t *testing.T) {
	for _, g := range configs() {
		for n := 48; n < size(g)+40; n++ {
			x := made(t, g, 0)
			want := api.OK
			if n > size(g) {
				want = api.ErrBytes
			}
			x.answers(t, sized(0, 3, n), want)
			if want != api.OK {
				x.tellsNone(t)
				continue
			}
			x.tells(t, sized(0, 3, n), 1)
			if got := x.chip.Acts(); got != (n+31)/32+2 {
				t.Fatalf("%d bytes: %d acts", n, got)
			}
		}
	}
}

// P15.1: areas as great as there may be: an image of MaxImage bytes, and one byte more.
func TestGreatest(t *testing.T) {
	g := api.Config{Cells: 256, Slots: 1, Fuses: 1, Step: 9, Keys: 1, Erases: 65536, Area: 64}
	x := made(t, g, 0)
	b := sized(0, 3, mostBytes)
	if e := x.loader.Stage(b); e != api.OK || x.chip.Acts() != 16384+2 {
		t.Fatalf("%v, %d acts", e, x.chip.Acts())
	}
	want, _ := form(b)
	if got := x.start(); !got.is(told{want, 1, api.OK}) {
		t.Fatalf("%v", got)
	}
	if e := x.loader.Stage(append(slices.Clone(b), 0)); e != api.ErrBytes || x.chip.Acts() != 16384+2 {
		t.Fatalf("%v, %d acts", e, x.chip.Acts())
	}
	g.Area = 63
	y := made(t, g, 0)
	if e := y.loader.Stage(b); e != api.ErrBytes || y.chip.Acts() != 0 {
		t.Fatalf("%v, %d acts", e, y.chip.Acts())
	}
}

// P15.1: without areas nothing is ever started, and no image is short enough; what the gate refuses is told ahead of that.
func TestNoAreas(t *testing.T) {
	for _, active := range []int64{0, 1, 2, mostNumber} {
		g := bare()
		x := laid{log: [2][]api.Cell{named(g, active)}, blown: []int{fuseOf(g, 1)}}.on(t, g, 0, 1)
		x.tellsNone(t)
		x.answers(t, right(0, 0, 3), api.ErrBytes)
		x.answers(t, sized(0, 3, 1000), api.ErrBytes)
		x.answers(t, right(0, 1, 3), api.ErrRevoked)
		x.answers(t, right(0, 2, 3), api.ErrKey)
		x.answers(t, right(1, 0, 3), api.ErrForm)
		x.answers(t, right(0, 0, 150), api.ErrVersion)
		x.answers(t, by(1, 0, 0, 3, nil), api.ErrTag)
		x.answers(t, nil, api.ErrShort)
		x.answers(t, append(right(0, 0, 3), 0), api.ErrRest)
		x.tellsNone(t)
	}
}

// changed tells the page that was erased, or else the cells that are others.
func changed(a, b api.Chip) string {
	for p := range a.Pages {
		if a.Erases[p] != b.Erases[p] {
			return fmt.Sprintf("erased %d", p)
		}
	}
	text := ""
	for p := range a.Pages {
		for k := range a.Pages[p] {
			if a.Pages[p][k] != b.Pages[p][k] {
				text += fmt.Sprintf("cell %d %d", p, k)
			}
		}
	}
	return text
}

// acted tells the acts of a Stage, each by what has changed since the one ahead of it.
func acted(t *testing.T, x *bench, b []byte) []string {
	t.Helper()
	var got []string
	before := x.chip.State()
	for i := range 100 {
		y := x.again(t)
		y.chip.Cut(i, ones)
		e := y.loader.Stage(b)
		if e == api.OK {
			break
		}
		if e != api.ErrPower {
			t.Fatal(e)
		}
		got = append(got, changed(before, y.chip.State()))
		before = y.chip.State()
	}
	return got
}

// P15.1: the acts told one by one: those of area.Write, then the log's; none of the log, where the target is the first one of the areas in order. Told by the chip alone.
func TestOrderOfActs(t *testing.T) {
	g := several()
	b := sized(0, 9, 7*32+1)
	zero := []string{"cell 2 1", "cell 2 2", "cell 2 3", "cell 2 4", "cell 3 0", "cell 3 1", "cell 3 2", "cell 2 0"}
	one := []string{"cell 5 1", "cell 5 2", "cell 5 3", "cell 5 4", "cell 6 0", "cell 6 1", "cell 6 2", "cell 5 0"}
	image := sized(0, 1, 60)
	odds := append(sized(2, 1, 60), make([]byte, 320)...) // of no key of the ring, and over all three pages
	full := []api.Cell{head(4), value(0, 3), value(2, 6), value(1, 1), filled(0x55)}
	for i, y := range []struct {
		laid laid
		want []string
	}{
		{laid{}, slices.Concat(one, []string{"cell 0 1", "cell 0 0"})},
		{laid{log: [2][]api.Cell{{filled(0x11)}}}, slices.Concat(one, []string{"erased 0", "cell 0 1", "cell 0 0"})},
		{laid{areas: [2][]byte{image, nil}}, slices.Concat(one, []string{"cell 0 1", "cell 0 0"})},
		{laid{areas: [2][]byte{nil, image}}, zero},
		{laid{areas: [2][]byte{odds, image}}, slices.Concat([]string{"erased 2", "erased 3", "erased 4"}, zero)},
		{laid{areas: [2][]byte{image, odds}}, slices.Concat([]string{"erased 5", "erased 6", "erased 7"}, one, []string{"cell 0 1", "cell 0 0"})},
		{laid{areas: [2][]byte{image, image}}, slices.Concat([]string{"erased 5"}, one, []string{"cell 0 1", "cell 0 0"})},
		{laid{areas: [2][]byte{odds, odds}}, slices.Concat([]string{"erased 5", "erased 6", "erased 7"}, one, []string{"cell 0 1", "cell 0 0"})},
		{laid{log: [2][]api.Cell{named(g, 5)}, areas: [2][]byte{image, image}}, slices.Concat([]string{"erased 2"}, zero, []string{"cell 0 2"})},
		{laid{log: [2][]api.Cell{nil, named(g, 5)}, areas: [2][]byte{image, nil}}, one},
		{laid{log: [2][]api.Cell{nil, named(g, 5)}}, slices.Concat(zero, []string{"cell 1 2"})},
		{laid{log: [2][]api.Cell{full}}, slices.Concat(one, []string{"cell 1 1", "cell 1 2", "cell 1 3", "cell 1 0"})},
		{laid{log: [2][]api.Cell{full[:4], full[1:]}}, slices.Concat(one, []string{"cell 0 4"})},
		{laid{log: [2][]api.Cell{full[1:], full}, areas: [2][]byte{sized(0, 8, 60), image}}, slices.Concat([]string{"erased 5"}, one, []string{"erased 0", "cell 0 1", "cell 0 2", "cell 0 3", "cell 0 0"})},
		{laid{log: [2][]api.Cell{full[1:], full}, areas: [2][]byte{image, sized(0, 8, 60)}}, slices.Concat([]string{"erased 2"}, zero)}, // the first one is too old
	} {
		x := y.laid.on(t, g, 0)
		if got := acted(t, x, b); !slices.Equal(got, y.want) {
			t.Errorf("%d: %q, want %q", i, got, y.want)
		}
		x.answers(t, b, api.OK)
		if x.chip.Acts() != len(y.want) {
			t.Errorf("%d: %d acts, want %d", i, x.chip.Acts(), len(y.want))
		}
	}
}

func masks(r *rand.Rand) [][]byte {
	return [][]byte{nil, {0}, ones, {0x0f}, {0xff, 0x00}, {0x00, 0xff, 0xff}, row(r, 32), row(r, 7), row(r, 200)}
}

// cutAtEach lets the power go at each act of a Stage: the chip is, bit by bit, what the acts ahead of it and the part of it leave; restored and mounted, Start tells what it told, or what was staged, and a Stage behind that is whole. (w6: the chip was blank once.)
func cutAtEach(t *testing.T, r *rand.Rand, x *bench, b []byte, w6 bool) {
	t.Helper()
	e, l := x.words().stage(b)
	if e != api.OK {
		t.Fatalf("Stage: %v", e)
	}
	was, staged := x.start(), told{n: x.words().target()}
	staged.x, _ = form(b)
	for i, a := range l {
		for _, mask := range masks(r) {
			y := x.again(t)
			y.chip.Cut(i, mask)
			if e := y.loader.Stage(b); e != api.ErrPower || !y.chip.Out() {
				t.Fatalf("a cut at the act %d of %d: %v", i, len(l), e)
			}
			want := x.words().behind(l[:i])
			want.done(a, mask)
			if y.chip.Acts() != x.chip.Acts()+i+1 || !same(y.chip.State(), want.holds) {
				t.Fatalf("a cut at the act %d of %d (%+v): %d acts; %v, want %v", i, len(l), a, y.chip.Acts(), y.chip.State(), want.holds)
			}
			if got := y.start(); !got.is(told{e: api.ErrPower}) {
				t.Fatalf("Start without power: %v", got)
			}
			y.chip.Restore()
			y.mount(t)
			if got := y.asks(t); w6 && !got.is(was) && !got.is(staged) {
				t.Fatalf("a cut at the act %d of %d, mask %x: Start: %v, was %v, staged %v", i, len(l), mask, got, was, staged)
			}
			if e := y.stages(t, imageB()); e == api.OK {
				got := y.start()
				got.n = 0
				if want, _ := form(imageB()); !got.is(told{x: want}) {
					t.Fatalf("Start behind a Stage: %v", got)
				}
			} else if e != api.ErrWorn && e != api.ErrVersion && e != api.ErrRevoked {
				t.Fatal(e)
			}
		}
	}
	y := x.again(t)
	y.chip.Cut(len(l), ones)
	if e := y.loader.Stage(b); e != api.OK || y.chip.Out() || !y.start().is(staged) {
		t.Fatalf("a cut behind the %d acts: %v", len(l), e)
	}
}

// P15.1, P15.2: a cut at each act of a Stage over several pages and cells, with masks of zeros, of ones and mixed ones, of chips that were blank once: one that is blank, one that holds an image, two of them, whose first one is revoked, whose log is full.
func TestCutAtEach(t *testing.T) {
	g := several()
	g.Erases = 20
	for name, done := range map[string]func(t *testing.T, x *bench){
		"blank": func(t *testing.T, x *bench) {},
		"one":   func(t *testing.T, x *bench) { x.answers(t, sized(0, 1, 100), api.OK) },
		"two": func(t *testing.T, x *bench) {
			x.answers(t, sized(0, 1, 480), api.OK)
			x.answers(t, sized(0, 1, 300), api.OK)
		},
		"the first one revoked": func(t *testing.T, x *bench) {
			x.answers(t, sized(0, 4, 200), api.OK)
			x.answers(t, sized(1, 1, 300), api.OK)
			x.revoke(t, 1)
		},
		"the first one too old": func(t *testing.T, x *bench) {
			x.answers(t, sized(0, 4, 200), api.OK)
			x.answers(t, sized(0, 1, 300), api.OK)
			x.raise(t, 0, 3)
		},
		"none that may be": func(t *testing.T, x *bench) {
			x.answers(t, sized(0, 1, 200), api.OK)
			x.answers(t, sized(0, 2, 300), api.OK)
			x.raise(t, 0, 3)
		},
		"a log that is full": func(t *testing.T, x *bench) {
			for v := int64(1); x.words().free() > 0 || v < 5; v++ {
				x.raise(t, 1, v)
			}
			x.answers(t, sized(0, 1, 300), api.OK)
			for v := int64(9); x.words().free() > 0; v++ {
				x.raise(t, 1, v)
			}
		},
		"a cut ahead of it": func(t *testing.T, x *bench) {
			x.answers(t, sized(0, 1, 300), api.OK)
			x.chip.Cut(9, []byte{0x5a})
			x.loader.Stage(sized(0, 2, 400))
			x.chip.Restore()
		},
	} {
		t.Run(name, func(t *testing.T) {
			r := rand.New(rand.NewSource(1))
			x := made(t, g, 0, 1)
			done(t, x)
			cutAtEach(t, r, x, sized(0, 5, 400), true)
			cutAtEach(t, r, x, right(0, 0, 6), true)
		})
	}
}

// held is a chip on which anything lies: records and other cells in the log's pages, images that may be started and such as may not in the areas.
func held(t *testing.T, r *rand.Rand, g api.Config) *bench {
	t.Helper()
	y := laid{erases: map[int]int{}}
	for p := range y.log {
		for i := range r.Intn(g.Cells + 1) {
			x := value(r.Intn(g.Slots+1), 1+r.Int63n(6))
			switch r.Intn(9) {
			case 0:
				x = filled(0xff)
			case 1:
				x = api.Cell(row(r, 32))
			case 2:
				x = value(g.Slots, mostNumber-r.Int63n(3))
			}
			if i == 0 && r.Intn(6) > 0 {
				x = head([]int64{1, 2, 3, mostNumber - 1, mostNumber}[r.Intn(5)])
			}
			y.log[p] = append(y.log[p], x)
		}
	}
	for n := range y.areas {
		y.areas[n] = anyImage(r, g)
		if len(y.areas[n]) > size(g) {
			y.areas[n] = y.areas[n][:size(g)]
		}
	}
	for p := range 2 + 2*g.Area {
		if r.Intn(3) == 0 {
			y.erases[p] = r.Intn(g.Erases + 2)
		}
	}
	for i := range g.Slots*g.Fuses + g.Keys {
		if r.Intn(6) == 0 {
			y.blown = append(y.blown, i)
		}
	}
	return y.on(t, g, 0, 1, 2)
}

// anyImage is one that may be started more often than not.
func anyImage(r *rand.Rand, g api.Config) []byte {
	b := by(r.Intn(3), 0, 0, 1, nil)
	key, slot, version := r.Intn(2), r.Intn(g.Slots), 5+r.Int63n(12)
	if r.Intn(8) > 0 {
		b = right(slot, key, version, row(r, r.Intn(max(size(g)-47, 1)))...)
	}
	switch r.Intn(12) {
	case 0:
		return nil
	case 1:
		return turned(b, r.Intn(8*len(b)))
	case 2:
		return append(b, row(r, r.Intn(200))...)
	case 3:
		return b[:r.Intn(len(b))]
	case 4:
		return row(r, r.Intn(size(g)+1))
	case 5:
		return sized(r.Intn(4), version, size(g)+r.Intn(3))
	}
	return b
}

// P15.1, P15.3, P15.4, R1: over whatever a chip holds both calls answer by the words, and do just their acts.
func TestAnyChips(t *testing.T) {
	r := rand.New(rand.NewSource(2))
	seen := map[api.Errno]int{}
	for _, g := range configs() {
		for range 400 {
			x := held(t, r, g)
			seen[100+x.asks(t).e]++
			for range 3 {
				seen[x.stages(t, anyImage(r, g))]++
			}
		}
	}
	for _, e := range []api.Errno{api.OK, api.ErrBytes, api.ErrForm, api.ErrShort, api.ErrRest, api.ErrWorn, api.ErrKey, api.ErrRevoked, api.ErrTag, api.ErrVersion, 100, 100 + api.ErrNone} {
		if seen[e] < 10 {
			t.Errorf("%d times %d", seen[e], e)
		}
	}
}

// P15.1: over whatever a chip holds, cut at each act.
func TestAnyChipsCut(t *testing.T) {
	r := rand.New(rand.NewSource(3))
	for _, g := range configs() {
		count := 0
		for count < 8 {
			x := held(t, r, g)
			b := anyImage(r, g)
			if e, _ := x.words().stage(b); e == api.OK {
				cutAtEach(t, r, x, b, false)
				count++
			}
		}
	}
}

// P15.2, P15.3: rows of calls over chips that began blank, cut more often than not: behind a Stage that was answered OK Start tells its image, till a key is revoked, a counter bumped, or another one staged; behind one at whose act the power went, what it told ahead of it, or what was staged.
func TestScripts(t *testing.T) {
	r := rand.New(rand.NewSource(4))
	seen := map[string]int{}
	for i := range 240 {
		g := configs()[i%4]
		g.Erases = 2 + r.Intn(40)
		x := made(t, g, 0, 1, 2)
		was := x.asks(t)
		for range 40 {
			x.scripted(t, r, &was, seen)
		}
	}
	for _, what := range []string{"OK", "refused", "none", "whole", "bumped"} {
		if seen[what] < 100 {
			t.Errorf("%d times %s", seen[what], what)
		}
	}
}

// scripted does one thing of a script; was is what Start told last.
func (x *bench) scripted(t *testing.T, r *rand.Rand, was *told, seen map[string]int) {
	t.Helper()
	g := x.chip.Config()
	b := anyImage(r, g)
	_, l := x.words().stage(b)
	if ms := masks(r); r.Intn(2) == 0 {
		x.chip.Cut([]int{r.Intn(3), r.Intn(20), len(l) - 1}[r.Intn(3)], ms[r.Intn(len(ms))])
	}
	switch r.Intn(12) {
	case 0:
		x.store.Revoke(1 + r.Intn(g.Keys-1))
		seen["bumped"]++
		x.back(t)
		*was = x.asks(t)
	case 1, 2:
		x.store.Bump(r.Intn(g.Slots))
		seen["bumped"]++
		x.back(t)
		*was = x.asks(t)
	default:
		staged := told{n: x.words().target()}
		e := x.loader.Stage(b)
		x.back(t)
		now := x.asks(t)
		if e == api.OK || e == api.ErrPower {
			staged.x, _ = form(b)
		}
		switch {
		case e == api.OK && now.is(staged):
			seen["OK"]++
		case e == api.ErrPower && now.is(staged):
			seen["whole"]++
		case e == api.ErrPower && now.is(*was):
			seen["none"]++
		case e != api.OK && e != api.ErrPower && now.is(*was):
			seen["refused"]++
		default:
			t.Fatalf("Stage: %v; Start: %v, was %v, staged %v", e, now, *was, staged)
		}
		*was = now
	}
	x.passes(t)
}

// back makes sure that there is power, and mounts anew.
func (x *bench) back(t *testing.T) {
	t.Helper()
	x.chip.Cut(-1, nil)
	x.chip.Restore()
	x.mount(t)
}

// passes makes sure that what Start tells is what lies in that area, and passes the gate.
func (x *bench) passes(t *testing.T) {
	t.Helper()
	got := x.start()
	if got.e != api.OK {
		for n := range 2 {
			if b, e := area.Read(x.chip, n); e == api.OK {
				if _, e := gate.Check(x.store, x.ring, b); e == api.OK {
					t.Fatalf("Start: %v, and the area %d holds %s", got, n, short(b))
				}
			}
		}
		return
	}
	b, e := area.Read(x.chip, got.n)
	im, f := gate.Check(x.store, x.ring, b)
	if e != api.OK || f != api.OK || !got.is(told{im, got.n, api.OK}) {
		t.Fatalf("Start: %v, and the gate: %v %v", got, e, f)
	}
}

// P15.2: cut again and again, at each act and at each act of the Stage behind it: never is anything told but what was told ahead of it, or what was staged; and then a Stage is whole.
func TestCutAgain(t *testing.T) {
	g := several()
	g.Erases = 20
	begun := made(t, g, 0)
	begun.answers(t, sized(0, 1, 200), api.OK)
	begun.answers(t, sized(0, 2, 100), api.OK)
	one, two, three := sized(0, 3, 200), sized(0, 4, 100), sized(0, 5, 170)
	ms := [][]byte{nil, ones, {0x0f}, {0x6a, 0x35, 0x9e}}
	for at := range 12 * 12 {
		for i := range len(ms) * len(ms) {
			x := begun.again(t)
			for k, b := range [][]byte{one, two} {
				was, staged := x.start(), told{n: x.words().target()}
				staged.x, _ = form(b)
				x.chip.Cut([]int{at % 12, at / 12}[k], ms[[]int{i % len(ms), i / len(ms)}[k]])
				e := x.loader.Stage(b)
				x.back(t)
				if got := x.asks(t); e == api.ErrPower && !got.is(was) && !got.is(staged) || e == api.OK && !got.is(staged) || e != api.OK && e != api.ErrPower {
					t.Fatalf("%d, %d: Stage: %v; Start: %v", at, i, e, got)
				}
			}
			to := x.words().target()
			x.answers(t, three, api.OK)
			x.tells(t, three, to)
		}
	}
}

// P15.1: a cut makes of an image whose tag is wrong by a bit the right one: then that is told, as it lies there. (That is the case that the document leaves out of P15.2.)
func TestCutMakesAnImage(t *testing.T) {
	g := several()
	good := sized(0, 3, 100)
	for bit := range 32 * 8 {
		at := 8*68 + bit
		if good[at/8]>>(at%8)&1 == 0 {
			continue
		}
		x := laid{areas: [2][]byte{turned(good, at), sized(0, 2, 60)}}.on(t, g, 0)
		x.tells(t, sized(0, 2, 60), 1)
		mask := make([]byte, 32*g.Cells)
		mask[at/8] = 1 << (at % 8)
		x.chip.Cut(0, mask)
		if e := x.loader.Stage(sized(0, 4, 60)); e != api.ErrPower {
			t.Fatal(e)
		}
		x.back(t)
		x.tells(t, good, 0)
		x.answers(t, sized(0, 4, 60), api.OK)
		x.tells(t, sized(0, 4, 60), 1)
	}
}

// P15.2: what was staged stays told, whatever is asked, refused or mounted.
func TestAcknowledged(t *testing.T) {
	for _, g := range configs() {
		x := made(t, g, 0)
		for i := range 2 {
			b := sized(0, int64(4+i), 120)
			x.answers(t, b, api.OK)
			for range 3 {
				x.tells(t, b, 1-i)
				x.answers(t, nil, api.ErrShort)
				x.answers(t, turned(b, 8*20), api.ErrTag)
				x.answers(t, sized(0, 9, size(g)+1), api.ErrBytes)
				x.answers(t, right(0, 1, 9), api.ErrKey)
				x.mount(t)
				x.off(t)
				x.loader.Stage(b)
				x.chip.Restore()
			}
			x.tells(t, b, 1-i)
		}
	}
}

// P15.3: what Start tells passes the gate as it is then: keys are revoked and counters bumped in between, by the same store, with and without a loader made anew.
func TestAsTheGateIsThen(t *testing.T) {
	g := example()
	for _, anew := range []bool{false, true} {
		x := made(t, g, 0, 1)
		step := func(do func()) {
			do()
			if anew {
				x.mount(t)
			}
			x.passes(t)
		}
		a, b := sized(0, 5, 100), sized(1, 3, 90)
		step(func() { x.answers(t, a, api.OK) })
		step(func() { x.answers(t, b, api.OK) })
		x.tells(t, b, 0)
		step(func() { x.raise(t, 0, 3) })
		x.tells(t, b, 0)
		step(func() { x.raise(t, 0, 4) })
		x.tells(t, a, 1)
		x.active(t, 2)
		c := sized(1, 4, 80)
		step(func() { x.answers(t, c, api.OK) }) // into the area 0, which is the first one: no number is laid
		x.tells(t, c, 0)
		x.active(t, 2)
		step(func() { x.revoke(t, 1) })
		x.tells(t, a, 1)
		x.answers(t, c, api.ErrRevoked)
		step(func() { x.raise(t, 0, 5) })
		x.tells(t, a, 1)
		step(func() { x.raise(t, 0, 6) })
		x.tellsNone(t)
		d := sized(0, 6, 70)
		step(func() { x.answers(t, d, api.OK) }) // none was told: the second one of the areas in order, which is the area 1
		x.tells(t, d, 1)
		x.active(t, 3)
		step(func() { x.revoke(t, 0) })
		x.tellsNone(t)
		x.answers(t, d, api.ErrRevoked)
	}
}

// P15.1, P15.4: New, Start and a Stage that is refused do no act, also none at which a cut would wait.
func TestNoActs(t *testing.T) {
	for i := 1; i < 4; i++ {
		x := gated(t, i&1 > 0, i&2 > 0, true)
		s := x.chip.State()
		x.chip.Cut(0, ones)
		for range 2 {
			for name, b := range some() {
				if e := x.loader.Stage(b); e == api.OK {
					t.Fatalf("Stage, %s", name)
				}
				x.start()
			}
			x.loader = loader.New(x.chip, x.store, x.ring)
		}
		if x.chip.Acts() != 0 || x.chip.Out() || !same(x.chip.State(), s) {
			t.Error("something was done")
		}
		if e := x.chip.Blow(0); e != api.ErrPower {
			t.Errorf("the cut waits no more: %v", e)
		}
	}
}

// room tells bytes with spare room behind them, and all of it.
func room(b []byte) (in, all []byte) {
	all = slices.Concat(b, bytes.Repeat([]byte{0xa5}, 70))
	return all[:len(b)], all
}

// spoil turns all bytes of a row, and those of its spare room.
func spoil(b []byte) {
	all := b[:cap(b)]
	for i := range all {
		all[i] ^= 0x5a
	}
}

// R3: the bytes that are handed in stay as they were, the room behind their length too, whatever the answer, and are not kept; that room is none of their bytes.
func TestBytesUnchanged(t *testing.T) {
	for name, b := range some() {
		for _, cut := range []int{-1, 0, 2, 4} {
			x := gated(t, false, false, true)
			in, all := room(b)
			was := slices.Clone(all)
			x.chip.Cut(cut, []byte{0x0f})
			e := x.loader.Stage(in)
			if !bytes.Equal(all, was) {
				t.Fatalf("%s: changed", name)
			}
			s := x.chip.State()
			spoil(all)
			if !same(x.chip.State(), s) {
				t.Fatalf("%s: kept", name)
			}
			if e == api.OK {
				x.tells(t, b, 1)
				if got := x.words().bytes(1); bytes.Count(got[len(b):], ones) != len(got)-len(b) {
					t.Fatalf("%s: more was laid than that", name)
				}
			}
		}
	}
}

// R3: the image that Start tells is its owner's, spare room too: written over, it changes neither the chip nor another answer.
func TestImageApart(t *testing.T) {
	for _, n := range []int{48, 49, 80, 100, 480} {
		x := made(t, several(), 0)
		b := sized(0, 3, n)
		x.answers(t, b, api.OK)
		s := x.chip.State()
		one, two := x.start(), x.start()
		spoil(one.x.Payload)
		want, _ := form(b)
		if !two.is(told{want, 1, api.OK}) || !same(x.chip.State(), s) {
			t.Fatalf("%d bytes: not apart", n)
		}
		x.tells(t, b, 1)
		x.answers(t, sized(0, 4, 200), api.OK)
		x.answers(t, sized(0, 5, 200), api.OK) // into the area that the image lay in
		if !two.is(told{want, 1, api.OK}) {
			t.Fatalf("%d bytes: another Stage is seen in an answer", n)
		}
	}
}

// R4: an answer hangs on what the chip holds then: acts by others, and Stages by another loader of the same chip, are seen at once.
func TestOtherHands(t *testing.T) {
	g := several()
	g.Erases = 20
	x := made(t, g, 0, 1)
	x.answers(t, imageA(), api.OK)
	other := on(t, x.chip, 0, 1)
	for i := range 8 {
		b := sized(i%2, int64(2+i), 100+i)
		other.answers(t, b, api.OK)
		x.tells(t, b, 0)
		x.answers(t, imageA(), api.OK)
		other.tells(t, imageA(), 1)
	}
	x = made(t, several(), 0, 1)
	x.answers(t, imageA(), api.OK)
	x.answers(t, imageB(), api.OK)
	for _, hand := range []func() api.Errno{
		func() api.Errno { return x.chip.Program(0, 3, value(2, 7)) },
		func() api.Errno { return x.chip.Program(2, 3, api.Cell{}) },
		func() api.Errno { return x.chip.Erase(0) },
		func() api.Errno { return x.chip.Program(2, 0, filled(0xfe)) },
		func() api.Errno { return x.chip.Program(1, 0, head(3)) },
		func() api.Errno { return x.chip.Program(1, 4, value(2, mostNumber)) },
		func() api.Errno { return x.chip.Blow(0) },
		func() api.Errno { return area.Write(x.chip, 0, sized(0, 12, 90)) },
		func() api.Errno { return x.chip.Blow(6) },
	} {
		if e := hand(); e != api.OK {
			t.Fatal(e)
		}
		x.asks(t)
		for _, b := range [][]byte{imageA(), sized(1, 12, 200)} {
			x.again(t).stages(t, b)
		}
	}
}

// R4: two loaders over chips that hold the same answer the same, whatever they were asked before.
func TestOneAnswer(t *testing.T) {
	r := rand.New(rand.NewSource(5))
	for i := range 60 {
		x := held(t, r, configs()[i%4])
		y := x.again(t)
		for range 3 {
			x.start()
			x.loader.Stage(nil)
			b := anyImage(r, x.chip.Config())
			made(t, several(), 0).answers(t, imageB(), api.OK)
			if e, f := x.loader.Stage(b), y.loader.Stage(b); e != f || !same(x.chip.State(), y.chip.State()) || !x.start().is(y.start()) {
				t.Fatalf("%v %v", e, f)
			}
		}
	}
}

// R4: a loader answers by its own chip, store and ring: others beside them aren't seen.
func TestOthersBeside(t *testing.T) {
	x, y := made(t, several(), 0), made(t, example(), 0, 1)
	b := sized(1, 3, 100)
	x.answers(t, b, api.ErrKey)
	y.answers(t, b, api.OK)
	x.tellsNone(t)
	x.answers(t, imageA(), api.OK)
	y.revoke(t, 0)
	x.tells(t, imageA(), 1)
	y.tells(t, b, 1)
	y.off(t)
	x.tells(t, imageA(), 1)
	z := on(t, x.chip, 1)
	z.tellsNone(t)
	x.tells(t, imageA(), 1)
}

// R1: a store of another chip, and a ring without secrets: each call ends.
func TestNotItsOwn(t *testing.T) {
	for _, g := range append(configs(), bare()) {
		for _, h := range append(configs(), bare()) {
			x, y := made(t, g, 0), made(t, h, 0)
			x.loader.Stage(imageA())
			y.loader.Stage(imageB())
			l := loader.New(x.chip, y.store, x.ring)
			for range 3 {
				l.Start()
				l.Stage(imageC())
				l.Stage(nil)
			}
			x.off(t)
			l.Start()
			l.Stage(imageC())
		}
	}
	x := made(t, several())
	x.tellsNone(t)
	x.answers(t, imageA(), api.ErrKey)
}

// R4: many ask one loader, and many stage on chips of their own, at one time.
func TestManyAtOneTime(t *testing.T) {
	x := made(t, several(), 0)
	x.answers(t, imageA(), api.OK)
	want := x.start()
	var bad [8]bool
	var all sync.WaitGroup
	for i := range bad {
		mine := x.again(t)
		all.Go(func() {
			for k := range 50 {
				bad[i] = bad[i] || !x.start().is(want)
				b := sized(0, int64(1+(i+k)%30), 60+k)
				e, now := mine.loader.Stage(b), mine.start()
				bad[i] = bad[i] || e != api.OK && e != api.ErrWorn || e == api.OK && now.x.Version != int64(1+(i+k)%30)
			}
		})
	}
	all.Wait()
	if bad != [8]bool{} {
		t.Errorf("%v", bad)
	}
}

// The errors that come here and the limits have the numbers that the document gives.
func TestNumbers(t *testing.T) {
	got := [11]api.Errno{api.ErrBytes, api.ErrForm, api.ErrShort, api.ErrRest, api.ErrPower, api.ErrWorn, api.ErrKey, api.ErrRevoked, api.ErrTag, api.ErrVersion, api.ErrNone}
	if got != [11]api.Errno{4, 5, 6, 7, 8, 9, 13, 14, 15, 16, 17} || api.OK != 0 {
		t.Errorf("errors: %d", got)
	}
	if got := [5]int{api.MaxImage, api.MaxArea, api.MaxCells, api.MaxSlots, api.MaxKeys}; got != [5]int{mostBytes, 64, 256, 8, 64} {
		t.Errorf("limits: %d", got)
	}
}
