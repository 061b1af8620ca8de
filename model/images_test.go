package model_test

import (
	"slices"
	"testing"

	"portcullis/api"
)

// gated are bytes, and what the gate says of them behind ready.
func gated() []struct {
	name string
	b    []byte
	want api.Errno
} {
	good := sized(0, 9, 90)
	return []struct {
		name string
		b    []byte
		want api.Errno
	}{
		{"good", good, api.OK},
		{"at the value", sized(0, 6, 90), api.OK},
		{"at the last version", sized(0, 39, 90), api.OK},
		{"of the slot 1", right(1, 5, 20, 7), api.OK},
		{"as small as may be", sized(0, 9, 48), api.OK},
		{"as long as an area", sized(0, 9, 480), api.OK},
		{"none", nil, api.ErrShort},
		{"one byte", good[:1], api.ErrShort},
		{"short", good[:89], api.ErrShort},
		{"of another form", turned(good, 0), api.ErrForm},
		{"a byte behind", append(slices.Clone(good), 0), api.ErrRest},
		{"more than an image", make([]byte, mostBytes+1), api.ErrBytes},
		{"no slot of the chip", right(2, 0, 9), api.ErrForm},
		{"no slot of any chip", turned(right(0, 0, 9), 8*5+3), api.ErrForm},
		{"no key of the ring", right(0, 7, 9), api.ErrKey},
		{"no key of the chip", right(0, 9, 9), api.ErrKey},
		{"a key of neither", right(0, 63, 9), api.ErrKey},
		{"revoked", sized(1, 9, 90), api.ErrRevoked},
		{"signed by another", signed(2, 0, 0, 9), api.ErrTag},
		{"a bit of the payload", turned(good, 8*20), api.ErrTag},
		{"a bit of the version", turned(good, 8*8), api.ErrTag},
		{"a bit of the tag", turned(good, 8*89), api.ErrTag},
		{"below the value", sized(0, 5, 90), api.ErrVersion},
		{"below the value of its slot", right(1, 0, 19), api.ErrVersion},
		{"above the last version", sized(0, 40, 90), api.ErrVersion},
		{"far above it", right(0, 0, 1<<32-1), api.ErrVersion},
		{"short, no slot, no key, below", right(2, 9, 1)[:40], api.ErrShort},
		{"a byte behind, no slot, no key", append(right(2, 9, 1), 0), api.ErrRest},
		{"no slot, no key", right(2, 9, 9), api.ErrForm},
		{"no key, signed by another, below", signed(2, 0, 9, 1), api.ErrKey},
		{"revoked, signed by another, below", signed(2, 0, 1, 5), api.ErrRevoked},
		{"signed by another, below", signed(2, 0, 0, 5), api.ErrTag},
	}
}

// P19.1: StepBoot with each of the gate's answers, in their order; with an error nothing is handed off any more, and else the image is.
func TestBoot(t *testing.T) {
	j := on(wide())
	for _, y := range gated() {
		want := fails(y.want)
		if y.want == api.OK {
			want = value(started(y.b).V)
		}
		j.just(t, ready(), boot(y.b), want)
		behind := lines(ready(), []line{{boot(y.b), want}})
		j.just(t, behind, boot(y.b), want)
		switch {
		case y.want != api.OK:
			j.just(t, behind, confirm(), fails(api.ErrState))
		case y.name == "at the value", y.name == "of the slot 1":
			j.just(t, behind, confirm(), fine())
		default:
			j.just(t, behind, confirm(), fine(), worn(), power())
			j.just(t, lines(behind, ok(confirm())), read(0), value(want.V))
		}
		if t.Failed() {
			t.Fatal(y.name)
		}
	}
	j.just(t, nil, boot(right(0, 0, 0)), value(0))
	j.explained(t, ready(), []line{{boot(sized(0, 9, mostBytes)), value(9)}}) // longer than an area
	j.just(t, ok(bumpTo(0, 10)), boot(sized(0, 9, 60)), fails(api.ErrVersion))
	j.just(t, ok(bumpTo(0, 9)), boot(sized(0, 9, 60)), value(9))
	j.just(t, ok(revoke(0)), boot(sized(0, 9, 60)), fails(api.ErrRevoked))
	j.known = nil
	j.just(t, nil, boot(sized(0, 9, 60)), fails(api.ErrKey))
}

// P19.1: StepStage with each error of chapter 15; one that is refused changes nothing.
func TestStageErrors(t *testing.T) {
	j := on(wide())
	for _, y := range gated() {
		may := []api.Answer{fails(y.want)}
		if y.want == api.OK {
			may = []api.Answer{fine(), worn(), power()}
		}
		j.just(t, ready(), stage(y.b), may...)
		if y.want != api.OK {
			behind := lines(ready(), []line{{stage(y.b), may[0]}})
			j.just(t, behind, start(), started(sized(0, 7, 80)))
			j.just(t, behind, confirm(), fine(), worn(), power())
			j.just(t, lines(behind, ok(revoke(0))), start(), fails(api.ErrNone))
		}
		if t.Failed() {
			t.Fatal(y.name)
		}
	}
	long := sized(0, 9, 481)
	j.just(t, ready(), stage(long), fails(api.ErrBytes))
	j.just(t, ready(), stage(turned(long, 8*480)), fails(api.ErrTag)) // the gate comes first
	j.just(t, ready(), stage(sized(0, 5, 481)), fails(api.ErrVersion))
	greatest := sized(0, 9, mostBytes)
	j.explained(t, ready(), []line{{stage(greatest), fails(api.ErrBytes)}})
	j.config.Area = 0
	j.just(t, nil, stage(sized(0, 9, 48)), fails(api.ErrBytes))
	j.just(t, nil, stage(sized(0, 40, 48)), fails(api.ErrVersion))
	j.just(t, nil, start(), fails(api.ErrNone))
	j.config.Area, j.config.Cells = 64, 256
	j.explained(t, []line{{stage(greatest), fine()}, {start(), started(greatest)}})
	j.unexplained(t, 0, []line{{stage(greatest), fails(api.ErrBytes)}})
}

// Images of the slot 0, each of a key of its own.
func imageA() []byte { return sized(0, 7, 60) }
func imageB() []byte { return sized(2, 8, 130) }
func imageC() []byte { return sized(3, 9, 200) }
func imageD() []byte { return sized(4, 6, 480) }

// P19.1: StepStart with nothing in either area, with an image in one and in both, refused by each of the gate's errors that may come there; the Hash beside it.
func TestStart(t *testing.T) {
	j := on(wide())
	a, b, c := imageA(), imageB(), imageC()
	nothing := fails(api.ErrNone)
	for i, y := range []struct {
		ahead []line
		want  api.Answer
	}{
		{nil, nothing},
		{ok(stage(a)), started(a)},
		{ok(stage(a), stage(b)), started(b)},
		{ok(stage(a), stage(b), stage(c)), started(c)},
		{ok(stage(a), stage(b), stage(c), stage(a)), started(a)},
		{ok(stage(a), revoke(0)), nothing},
		{ok(stage(a), bumpTo(0, 7)), started(a)},
		{ok(stage(a), bumpTo(0, 8)), nothing},
		{ok(stage(a), bumpTo(1, 39)), started(a)},
		{ok(stage(a), stage(b), revoke(2)), started(a)},
		{ok(stage(a), stage(b), revoke(0)), started(b)},
		{ok(stage(a), stage(b), revoke(0), revoke(2)), nothing},
		{ok(stage(a), stage(b), bumpTo(0, 8)), started(b)},
		{ok(stage(b), stage(a), bumpTo(0, 8)), started(b)},
		{ok(stage(b), stage(a), bumpTo(0, 9)), nothing},
		{ok(stage(a), stage(b), revoke(2), bumpTo(0, 8)), nothing},
		{ok(stage(a), stage(b), revoke(2), stage(c)), started(c)},            // in b's place
		{ok(stage(a), stage(b), revoke(2), stage(c), revoke(3)), started(a)}, // which a was not in
		{ok(stage(a), stage(b), revoke(0), stage(c), revoke(3)), started(b)},
		{ok(stage(a), stage(b), revoke(2), revoke(0), stage(c), revoke(3)), nothing},
		{ok(stage(a), restore(), mount()), started(a)},
		{lines(ok(stage(a)), []line{{boot(b), value(8)}}), started(a)},
		{ok(stage(right(0, 0, 0))), started(right(0, 0, 0))},
		{ok(stage(right(1, 5, 39))), started(right(1, 5, 39))},
	} {
		j.just(t, y.ahead, start(), y.want)
		j.just(t, lines(y.ahead, []line{{start(), y.want}}), start(), y.want)
		if t.Failed() {
			t.Fatal(i)
		}
	}
	j.unexplained(t, 1, ok(stage(a)), []line{{start(), api.Answer{V: 7, Hash: started(b).Hash}}})
	j.unexplained(t, 1, ok(stage(a)), []line{{start(), api.Answer{V: 8, Hash: started(a).Hash}}})
	j.unexplained(t, 0, []line{{start(), api.Answer{E: api.ErrNone, Hash: started(a).Hash}}})
}

// P19.1: StepStage into either area, twice in a row, and with bytes that are alike: which area is the target is told by what is started when the image staged is refused.
func TestStage(t *testing.T) {
	j := on(wide())
	a, b, c, d := imageA(), imageB(), imageC(), imageD()
	acts := []api.Answer{fine(), worn(), power()}
	for _, ahead := range [][]line{nil, ok(stage(a)), ok(stage(a), stage(b)), ok(stage(a), stage(b), stage(d)), ok(stage(c)), ok(stage(c), stage(c))} {
		j.just(t, ahead, stage(c), acts...)
		j.just(t, lines(ahead, ok(stage(c))), start(), started(c))
		j.just(t, lines(ahead, ok(stage(c), stage(c))), start(), started(c))
		j.just(t, lines(ahead, ok(stage(c), stage(c), revoke(3))), start(), fails(api.ErrNone)) // both areas have it
	}
	j.just(t, ok(stage(a), stage(b), stage(c), revoke(3)), start(), started(b))
	j.just(t, ok(stage(a), stage(b), stage(c), revoke(3), revoke(2)), start(), fails(api.ErrNone)) // it came into a's area
	j.just(t, ok(stage(a), stage(a), stage(b), revoke(2)), start(), started(a))
	j.just(t, ok(stage(a), revoke(0), stage(b), stage(c), revoke(3)), start(), started(b)) // with none to start the second area is the target: the one that a is not in
	j.just(t, lines(ok(stage(a)), []line{{stage(b), worn()}}), start(), started(a))
	j.just(t, lines(ok(stage(a), stage(b)), []line{{stage(c), worn()}}, ok(revoke(2))), start(), started(a))
}

// P19.1: as many events as there may be, by Boots and Starts that are refused or not: the next one is ErrMany, hands nothing off, and so on till a mount.
func TestManyEvents(t *testing.T) {
	j := on(wide())
	a, b := imageA(), imageB()
	tries := []line{{boot(turned(b, 200)), fails(api.ErrTag)}, {start(), started(a)}, {boot(nil), fails(api.ErrShort)}, {boot(b), value(8)}, {start(), started(a)}}
	full := lines(ok(stage(a)), times(mostEvents, tries...)[:mostEvents])
	short := full[:mostEvents]
	tooMany := fails(api.ErrMany)
	j.explained(t, short, []line{{start(), started(a)}}, ok(confirm()))
	j.unexplained(t, mostEvents, short, []line{{start(), tooMany}})
	j.explained(t, full, ok(confirm()), []line{{read(0), value(8)}}) // the last of them was b
	for _, s := range []api.Step{boot(b), boot(nil), start()} {
		j.just(t, full, s, tooMany)
		j.explained(t, full, []line{{s, tooMany}, {confirm(), fails(api.ErrState)}, {boot(b), tooMany}, {start(), tooMany}})
		j.unexplained(t, len(full)+1, full, []line{{s, tooMany}}, ok(confirm()))
		for _, again := range [][]line{ok(mount()), ok(restore(), mount()), gone(revoke(5))} {
			j.explained(t, full, []line{{s, tooMany}}, again, []line{{confirm(), fails(api.ErrState)}}, full[1:], []line{{s, tooMany}})
			j.unexplained(t, len(full)+1+len(again), full, []line{{s, tooMany}}, again, []line{{s, tooMany}})
		}
	}
	j.explained(t, full, ok(stage(b), quote("n"), bumpTo(0, 9)), []line{{bump(0), value(10)}}) // all else goes on
	j.explained(t, full, []line{{api.Step{}, fails(api.ErrKind)}, {boot(b), tooMany}})
}
