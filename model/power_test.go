package model_test

import (
	"slices"
	"testing"

	"portcullis/api"
)

// P19.1: the power gone at StepBump, StepBumpTo, StepConfirm: the number is what it was, or v, and stays that; all else is as it was.
func TestPowerAtBumps(t *testing.T) {
	j := on(wide())
	acts := []line{{revoke(6), power()}}
	for i, y := range []struct {
		ahead    []line
		step     api.Step
		slot     int
		was, new int64
	}{
		{nil, bump(0), 0, 0, 1},
		{ready(), bump(0), 0, 6, 7},
		{ready(), bump(1), 1, 20, 21},
		{ready(), bumpTo(0, 7), 0, 6, 7},
		{ready(), bumpTo(1, 31), 1, 20, 31},
		{ready(), bumpTo(1, 39), 1, 20, 39},
		{ready(), confirm(), 1, 20, 22},
		{lines(ok(bumpTo(0, 5)), []line{{boot(imageB()), value(8)}}), confirm(), 0, 5, 8},
		{lines(ok(stage(imageA())), []line{{start(), started(imageA())}}), confirm(), 0, 0, 7},
	} {
		cut := lines(y.ahead, gone(y.step))
		j.just(t, lines(y.ahead, []line{{y.step, power()}}), read(y.slot), power())
		j.just(t, cut, read(y.slot), value(y.was), value(y.new))
		for _, v := range []int64{y.was, y.new} {
			one := lines(cut, []line{{read(y.slot), value(v)}})
			for range 3 { // once and for all
				j.just(t, one, read(y.slot), value(v))
				one = lines(one, acts, ok(restore(), mount()))
			}
			if v < 39 {
				j.just(t, one, bump(y.slot), value(v+1), worn(), power())
			} else {
				j.just(t, one, bump(y.slot), fails(api.ErrSaturated))
			}
			j.just(t, one, confirm(), fails(api.ErrState))
		}
		var other api.Answer
		if len(y.ahead) > 3 {
			other = value([]int64{20, 6}[y.slot])
			j.just(t, cut, revoked(1), yes())
			j.just(t, cut, start(), started(sized(0, 7, 80)))
		}
		j.just(t, cut, read(1-y.slot), other)
		j.just(t, cut, revoked(6), fine())
		if y.new < 39 {
			j.just(t, cut, bump(y.slot), value(y.was+1), value(y.new+1), worn(), power())
			j.just(t, cut, bumpTo(y.slot, y.new+1), fine(), worn(), power())
		}
		j.just(t, lines(cut, ok(bumpTo(y.slot, y.new))), read(y.slot), value(y.new))
		if t.Failed() {
			t.Fatal(i)
		}
	}
}

// P19.1: the power gone at StepRevoke: the key is revoked, or it is not, and never both at once.
func TestPowerAtRevoke(t *testing.T) {
	j := on(wide())
	b := imageB()
	cut := lines(ok(stage(b)), gone(revoke(2)))
	j.just(t, cut, revoked(2), fine(), yes())
	is, isn := line{revoked(2), yes()}, line{revoked(2), fine()}
	j.explained(t, cut, []line{is, is, is})
	j.explained(t, cut, []line{isn, isn, isn})
	j.unexplained(t, len(cut)+1, cut, []line{is, isn})
	j.unexplained(t, len(cut)+1, cut, []line{isn, is})
	j.unexplained(t, len(cut)+4, cut, []line{is}, ok(restore(), mount()), []line{is, isn})
	j.just(t, cut, boot(b), value(8), fails(api.ErrRevoked))
	j.just(t, cut, start(), started(b), fails(api.ErrNone))
	j.just(t, lines(cut, []line{is}), boot(b), fails(api.ErrRevoked))
	j.just(t, lines(cut, []line{isn}), boot(b), value(8))
	j.just(t, lines(cut, []line{{boot(b), value(8)}}), start(), started(b))
	j.just(t, lines(cut, []line{{boot(b), fails(api.ErrRevoked)}}), start(), fails(api.ErrNone))
	j.just(t, lines(cut, []line{{start(), started(b)}}), revoked(2), fine())
	j.just(t, lines(cut, []line{{start(), fails(api.ErrNone)}}), revoked(2), yes())
	j.just(t, cut, revoke(2), fine(), power())
	j.just(t, lines(cut, ok(revoke(2))), revoked(2), yes())
	j.just(t, lines(cut, []line{is}), revoke(2), fine())               // no act
	j.just(t, lines(cut, []line{isn}), revoke(2), fine(), power())     // an act
	j.just(t, lines(cut, gone(revoke(2))), revoked(2), fine(), yes())  // a second time
	j.just(t, lines(cut, gone(revoke(2))), revoke(2), fine(), power()) // it isn't yet, perhaps
	j.just(t, cut, revoked(3), fine())
	j.just(t, cut, read(0), value(0))
}

// P19.1: the power gone at a step that does no act is not explained; nor if it does one in a state that can't be any more.
func TestPowerWithoutActs(t *testing.T) {
	j := on(wide())
	ahead := lines(ready(), []line{{boot(sized(0, 6, 60)), value(6)}})
	for _, s := range []api.Step{
		read(0), read(9), bump(2), bump(-1), bumpTo(0, 6), bumpTo(0, 0), bumpTo(0, 40), bumpTo(0, -1), bumpTo(2, 7), revoke(1), revoke(8), revoked(0), revoked(8),
		boot(imageA()), boot(nil), stage(nil), stage(sized(0, 9, 481)), stage(sized(0, 5, 60)), stage(sized(1, 9, 60)), start(), confirm(), mount(), cut(0), restore(), quote("n"), {},
	} {
		j.unexplained(t, len(ahead), ahead, []line{{s, power()}})
	}
	j.unexplained(t, 0, []line{{confirm(), power()}})
	full := ok(bumpTo(0, 39))
	j.unexplained(t, 1, full, []line{{bump(0), power()}})
	torn := gone(bumpTo(0, 39)) // a bump may do acts behind it, or be refused
	j.just(t, torn, bump(0), value(1), worn(), power(), fails(api.ErrSaturated))
	j.just(t, lines(torn, gone(bump(0))), read(0), value(0), value(1)) // the value 39 can't be any more
	j.unexplained(t, len(torn)+1, torn, []line{{read(0), value(39)}, {bump(0), power()}})
	j.just(t, gone(bumpTo(0, 5)), bumpTo(0, 5), fine(), worn(), power())
	j.just(t, lines(gone(bumpTo(0, 5)), []line{{bumpTo(0, 5), worn()}}), read(0), value(0))
	j.just(t, lines(gone(bumpTo(0, 5)), []line{{bumpTo(0, 4), worn()}}), read(0), value(0))
	j.just(t, lines(gone(bumpTo(0, 5)), []line{{bumpTo(0, 6), worn()}}), read(0), value(0), value(5))
}

// P19.1: the four ways of a Stage at which the power goes: each is told by later Starts, Stages and reads; and no fifth one is.
func TestPowerAtStage(t *testing.T) {
	j := on(wide())
	a, b, c, d := imageA(), imageB(), imageC(), imageD()
	none := fails(api.ErrNone)
	cut := lines(ok(stage(d), stage(a)), gone(stage(b))) // d in the area 1, a in the area 0, which comes first; b is for the area 1
	behind := func(l ...line) []line { return lines(cut, l) }
	begun := func(x []byte) line { return line{start(), started(x)} }
	j.just(t, cut, start(), started(a), started(b))
	j.just(t, behind(begun(a)), start(), started(a))
	j.just(t, behind(begun(b)), start(), started(b))

	// The image that was started is refused: what is in the other area comes to light.
	lost := lines(behind(begun(a)), ok(revoke(0)))
	j.just(t, lost, start(), started(d), none, started(b)) // nothing has changed; nothing lies there any more; the bytes lie there
	whole := lines(behind(begun(b)), ok(revoke(2)))
	j.just(t, whole, start(), started(a))
	j.just(t, lines(whole, ok(revoke(0))), start(), none) // d is there no more

	// The next Stage: into which area it goes hangs on what may be started.
	for _, y := range []struct {
		seen line
		then api.Answer
	}{{begun(d), started(d)}, {line{start(), none}, none}, {begun(b), started(b)}} {
		l := lines(lost, []line{y.seen}, ok(stage(c)))
		j.just(t, l, start(), started(c))
		j.just(t, lines(l, ok(revoke(3))), start(), y.then)
	}
	j.just(t, lines(lost, ok(stage(c), revoke(3))), start(), started(d), none, started(b))

	// Reads tell them apart, too, by what is confirmed.
	j.just(t, lines(behind(begun(b)), ok(confirm())), read(0), value(8))
	j.just(t, lines(behind(begun(a)), ok(confirm())), read(0), value(7))
	j.just(t, lines(cut, ok(bumpTo(0, 8))), start(), started(b), none)
	j.just(t, cut, read(0), value(0))
	j.just(t, lines(cut, ok(bumpTo(0, 7), revoke(0))), start(), started(b), none) // d is older
	j.just(t, lines(cut, ok(revoke(0), revoke(2))), start(), started(d), none)
	j.just(t, lines(cut, ok(revoke(0), revoke(2), revoke(4))), start(), none)

	// Staged again: OK, and there is one way again.
	j.just(t, lines(cut, ok(stage(b))), start(), started(b))
	j.just(t, lines(cut, ok(stage(b), stage(b))), start(), started(b))
	j.just(t, lines(cut, ok(stage(b), revoke(2))), start(), started(a), none) // in a's place, if b had come first already
	j.just(t, lines(cut, []line{begun(a)}, ok(stage(b), revoke(2))), start(), started(a))
	j.just(t, lines(cut, []line{begun(b)}, ok(stage(b), revoke(2))), start(), none)
	j.just(t, lines(cut, []line{{stage(b), worn()}}), start(), started(a), started(b))
	j.just(t, lines(cut, gone(stage(b))), start(), started(a), started(b))
}

// P19.1: the power gone at a Stage onto a blank chip, where nothing was to lose.
func TestPowerAtFirstStage(t *testing.T) {
	j := on(wide())
	a, b := imageA(), imageB()
	none := fails(api.ErrNone)
	cut := gone(stage(a))
	j.just(t, cut, start(), started(a), none)
	j.just(t, lines(cut, ok(stage(b))), start(), started(b))
	j.just(t, lines(cut, ok(stage(b), revoke(2))), start(), started(a), none)
	j.just(t, lines(cut, []line{{start(), none}}, ok(stage(b), revoke(2))), start(), none)
	j.just(t, lines(cut, []line{{start(), started(a)}}, ok(stage(b), revoke(2))), start(), started(a))
	j.just(t, lines(cut, ok(revoke(0))), start(), none)
	both := lines(cut, gone(stage(b)))
	j.just(t, both, start(), started(a), started(b), none)
	j.just(t, lines(both, ok(revoke(0))), start(), started(b), none)
	j.just(t, lines(both, ok(revoke(2))), start(), started(a), none)
}

// P19.1: the power gone at a Stage of bytes that the target holds already, or the other area, or both.
func TestPowerAtStageAlike(t *testing.T) {
	j := on(wide())
	a, b := imageA(), imageB()
	none := fails(api.ErrNone)
	both := ok(stage(a), stage(a))
	j.just(t, both, start(), started(a))
	j.just(t, lines(both, gone(stage(a))), start(), started(a))
	j.just(t, lines(both, gone(stage(a)), ok(revoke(0))), start(), none)
	j.just(t, lines(both, gone(stage(a)), ok(stage(b), revoke(2))), start(), started(a))
	target := ok(stage(b), stage(a)) // b is where b will be staged
	j.just(t, lines(target, gone(stage(b))), start(), started(a), started(b))
	j.just(t, lines(target, gone(stage(b)), ok(revoke(0))), start(), started(b), none)
	j.just(t, lines(target, gone(stage(b)), ok(revoke(2))), start(), started(a))
	other := ok(stage(b), stage(a)) // a is in the other area than where it will be staged
	j.just(t, lines(other, gone(stage(a))), start(), started(a))
	j.just(t, lines(other, gone(stage(a)), ok(revoke(0))), start(), started(b), none)
}

// actSteps are steps that do acts wherever they stand in a script of them, each with another number.
func actSteps(n int) []api.Step {
	return []api.Step{bump(0), bumpTo(1, int64(15+n)), revoke(n % 64), stage(right(1, 0, 39, byte(n)))}
}

// P19.1: MaxCuts times the power gone is explained; once more is not, and that step is told.
func TestMostCuts(t *testing.T) {
	g := wide()
	g.Keys = 64
	j := on(g)
	for kind := range actSteps(0) {
		var l []line
		for n := range mostCuts {
			l = append(l, gone(actSteps(n + 2)[kind])...)
			j.explained(t, l)
		}
		at := len(l)
		j.explained(t, l, []line{{read(0), value(0)}})
		for _, s := range actSteps(20) {
			j.explained(t, l, []line{{s, answered(s)}})
			j.unexplained(t, at, l, []line{{s, power()}})
			j.unexplained(t, at, l, gone(s))
		}
	}
	var mixed []line
	for n := range mostCuts {
		mixed = append(mixed, gone(actSteps(n)[n%4])...)
	}
	j.explained(t, mixed)
	j.unexplained(t, len(mixed), mixed, gone(bump(0)))
}

// answered is how one of actSteps is answered, if all goes well, the slot 0 being at 0.
func answered(s api.Step) api.Answer {
	if s.Kind == api.StepBump {
		return value(1)
	}
	return fine()
}

// P19.1: what is answered ErrPower while the power is gone is no cut; nor is a mount without power.
func TestCutsCounted(t *testing.T) {
	j := on(wide())
	var l []line
	for n := range mostCuts {
		l = append(l, line{bump(n % 2), power()})
		l = append(l, times(3, line{bump(0), power()}, line{read(0), power()}, line{start(), power()}, line{stage(imageA()), power()}, line{confirm(), power()}, line{revoke(0), power()})...)
		l = append(l, lines(ok(quote("n")), times(2, line{mount(), power()}), []line{{bump(0), fails(api.ErrState)}}, ok(restore(), mount()))...)
	}
	j.explained(t, l)
	j.unexplained(t, len(l), l, []line{{bump(0), power()}})
	j.unexplained(t, len(l), l, []line{{read(0), power()}})
	j.explained(t, l, []line{{bump(0), worn()}}, ok(revoke(0)))
	j.just(t, l, read(0), value(0), value(1), value(2), value(3), value(4), value(5), value(6))
}

// P19.1: states that come out alike by different ways: what was told of one of them holds, by whatever way it was come to.
func TestAlike(t *testing.T) {
	j := on(wide())
	var l []line
	for range 6 {
		l = append(l, gone(bumpTo(0, 5))...)
	}
	j.just(t, l, read(0), value(0), value(5))
	l = lines(gone(bumpTo(0, 5)), ok(bumpTo(0, 5)))
	j.just(t, l, read(0), value(5))
	j.just(t, lines(gone(bump(0)), gone(bumpTo(0, 2)), gone(bumpTo(0, 2))), read(0), value(0), value(1), value(2))
	j.just(t, lines(gone(bump(0)), gone(bumpTo(0, 2)), gone(bumpTo(0, 1))), read(0), value(0), value(1)) // the last one did an act, so the value was 0
	j.just(t, lines(gone(revoke(3)), gone(bump(0)), gone(revoke(3))), revoked(3), fine(), yes())
	l = nil
	for n := range 6 { // by different steps, with bytes that are alike
		l = append(l, gone(stage(slices.Clone(imageA())))...)
		j.just(t, l, start(), started(imageA()), fails(api.ErrNone))
		j.just(t, lines(l, ok(revoke(0))), start(), fails(api.ErrNone))
		j.just(t, lines(l, ok(stage(imageB()), revoke(2))), start(), started(imageA()), fails(api.ErrNone))
		if t.Failed() {
			t.Fatal(n)
		}
	}
}

// R1: as many states as cuts can make, through a long script: it ends.
func TestManyStates(t *testing.T) {
	j := on(api.Config{Cells: 16, Slots: 8, Fuses: 64, Step: 65536, Keys: 64, Area: 1})
	image := func(n int) []byte { return right(1, n%6, 9, byte(n)) }
	for _, step := range []func(n int) api.Step{
		func(n int) api.Step { return revoke(20 + n) },
		func(n int) api.Step { return bumpTo(n%7, 1<<n) },
		func(n int) api.Step { return stage(image(n)) },
		func(n int) api.Step {
			return []api.Step{stage(image(n)), revoke(20 + n), bump(2), bumpTo(n%6, 1<<n)}[n%4]
		},
	} {
		var l []line
		for n := range mostCuts {
			l = append(l, gone(step(n))...)
		}
		l = append(l, times(50, line{read(7), value(0)}, line{revoked(63), fine()}, line{boot(right(7, 0, 9)), value(9)}, line{bumpTo(7, 0), fine()})...)
		j.explained(t, l)
		j.unexplained(t, len(l), l, []line{{revoked(62), yes()}})
	}
}
