package model_test

import (
	"math"
	"slices"
	"testing"

	"portcullis/api"
	"portcullis/model"
)

// P19.1: the chapter's examples.
func TestExamples(t *testing.T) {
	cutting := []api.Step{cut(0), bump(0), restore(), mount(), read(0), read(0)}
	for i, y := range []struct {
		script  []api.Step
		answers []api.Answer
		want    bool
		at      int
	}{
		{[]api.Step{bump(0), read(0)}, []api.Answer{{V: 1}, {V: 1}}, true, 0},
		{[]api.Step{bump(0), read(0)}, []api.Answer{{V: 1}, {V: 2}}, false, 1},
		{cutting[:5], []api.Answer{{}, {E: 8}, {}, {}, {V: 0}}, true, 0},
		{cutting[:5], []api.Answer{{}, {E: 8}, {}, {}, {V: 1}}, true, 0},
		{cutting[:5], []api.Answer{{}, {E: 8}, {}, {}, {V: 2}}, false, 4},
		{cutting, []api.Answer{{}, {E: 8}, {}, {}, {V: 0}, {V: 1}}, false, 5},
		{cutting, []api.Answer{{}, {E: 8}, {}, {}, {V: 1}, {V: 0}}, false, 5},
		{cutting, []api.Answer{{}, {E: 8}, {}, {}, {V: 0}, {V: 0}}, true, 0},
		{[]api.Step{bump(0)}, []api.Answer{{E: 9}}, true, 0},
		{[]api.Step{bumpTo(0, 9)}, []api.Answer{{}}, false, 0},
		{[]api.Step{bumpTo(0, 9)}, []api.Answer{{E: 10}}, true, 0},
	} {
		if is, at := model.Explains(chapter(), nil, y.script, y.answers); is != y.want || at != y.at {
			t.Errorf("%d: %v, %d, want %v, %d", i, is, at, y.want, y.at)
		}
	}
}

// wrongConfigs are such as may not be: each number just beyond its edges, and far beyond; and none at all.
func wrongConfigs() []api.Config {
	l := []api.Config{{}}
	for _, change := range []func(c *api.Config, n int){
		func(c *api.Config, n int) { c.Slots = []int{0, 9, -1, math.MinInt, math.MaxInt}[n] },
		func(c *api.Config, n int) { c.Cells = []int{c.Slots + 2, 257, -1, math.MinInt, math.MaxInt}[n] },
		func(c *api.Config, n int) { c.Fuses = []int{0, 65, -1, math.MinInt, math.MaxInt}[n] },
		func(c *api.Config, n int) { c.Step = []int{0, 65537, -1, math.MinInt, math.MaxInt}[n] },
		func(c *api.Config, n int) { c.Keys = []int{0, 65, -1, math.MinInt, math.MaxInt}[n] },
		func(c *api.Config, n int) { c.Erases = []int{-1, 65537, -2, math.MinInt, math.MaxInt}[n] },
		func(c *api.Config, n int) { c.Area = []int{-1, 65, -2, math.MinInt, math.MaxInt}[n] },
	} {
		for n := range 5 {
			c := wide()
			change(&c, n)
			l = append(l, c)
		}
	}
	return l
}

// rightConfigs are such as may be, with numbers at their edges.
func rightConfigs() []api.Config {
	return []api.Config{
		chapter(), wide(),
		{Cells: 4, Slots: 1, Fuses: 1, Step: 1, Keys: 1},
		{Cells: 11, Slots: 8, Fuses: 64, Step: 65536, Keys: 64, Erases: 65536},
		{Cells: 256, Slots: 8, Fuses: 64, Step: 65536, Keys: 64, Erases: 65536, Area: 64},
		{Cells: 256, Slots: 1, Fuses: 1, Step: 65536, Keys: 1, Area: 1},
	}
}

// many are so many secrets, of keys from 0 on.
func many(n int) []api.Secret {
	var l []api.Secret
	for k := range n {
		l = append(l, api.Secret{Key: k, Bytes: secretOf(k)})
	}
	return l
}

// wrongSecrets are such as may not be, by each of the errors of keys.New.
func wrongSecrets() [][]api.Secret {
	return [][]api.Secret{
		many(65), many(1000),
		{{Key: -1, Bytes: []byte{1}}}, append(many(3), api.Secret{Key: 64, Bytes: []byte{1}}), {{Key: math.MinInt, Bytes: []byte{1}}}, {{Key: math.MaxInt, Bytes: []byte{1}}},
		{{Key: 0}}, {{Key: 0, Bytes: []byte{}}}, append(many(3), api.Secret{Key: 9, Bytes: make([]byte, 257)}),
		append(many(3), api.Secret{Key: 0, Bytes: []byte{1}}), append(many(3), api.Secret{Key: 2, Bytes: secretOf(2)}),
	}
}

func rightSecrets() [][]api.Secret {
	return [][]api.Secret{nil, {}, many(64), {{Key: 63, Bytes: make([]byte, 256)}}, {{Key: 1, Bytes: []byte{1}}, {Key: 0, Bytes: []byte{1}}}}
}

// P19.1: a config or secrets that may not be, fewer or more answers than steps, and two or all of these at once: false, 0; else what the steps say.
func TestRefused(t *testing.T) {
	configs := append(rightConfigs(), wrongConfigs()...)
	secrets := append(rightSecrets(), wrongSecrets()...)
	script, answers := []api.Step{read(0), bump(0), read(0)}, []api.Answer{value(0), value(1), value(1), fine(), fine()}
	for i, c := range configs {
		for k, l := range secrets {
			for steps := range 4 {
				for told := range 6 {
					want := i < len(rightConfigs()) && k < len(rightSecrets()) && steps == told
					if is, at := model.Explains(c, l, script[:steps], answers[:told]); is != want || at != 0 {
						t.Fatalf("%+v, secrets %d, %d steps, %d answers: %v, %d, want %v, 0", c, k, steps, told, is, at, want)
					}
				}
			}
		}
	}
	for _, l := range wrongSecrets() { // the step that isn't explained is not told then
		if is, at := model.Explains(wide(), l, script, []api.Answer{value(0), value(1), value(2)}); is || at != 0 {
			t.Errorf("%v, %d, want false, 0", is, at)
		}
	}
	if is, at := model.Explains(wide(), nil, script, []api.Answer{value(0), value(2)}); is || at != 0 {
		t.Errorf("%v, %d, want false, 0", is, at)
	}
}

// P19.1: no step at all.
func TestNoStep(t *testing.T) {
	for _, c := range rightConfigs() {
		for _, script := range [][]api.Step{nil, {}} {
			for _, answers := range [][]api.Answer{nil, {}} {
				if is, at := model.Explains(c, nil, script, answers); !is || at != 0 {
					t.Errorf("%+v: %v, %d", c, is, at)
				}
			}
		}
	}
}

// ready is a chip of wide with two counters, a key revoked, an image in the area 1, and another one handed off, of the slot 1 and the version 22.
func ready() []line {
	return lines(ok(bumpTo(0, 6), bumpTo(1, 20), revoke(1), stage(sized(0, 7, 80))), []line{{boot(right(1, 2, 22, 5)), value(22)}})
}

// ways are those by which a rom is there, or is not, and the power is, or is not.
func ways() []struct {
	name       string
	lines      []line
	rom, power bool
} {
	out := []line{{revoke(7), power()}}
	refused := lines(out, []line{{mount(), power()}})
	return []struct {
		name       string
		lines      []line
		rom, power bool
	}{
		{"at first", nil, true, true},
		{"without power", out, true, false},
		{"let go by a restore with the power there", ok(restore()), false, true},
		{"let go by two of them", ok(restore(), restore()), false, true},
		{"let go by a restore", lines(out, ok(restore())), false, true},
		{"let go by a mount that was refused", refused, false, false},
		{"let go by two of them", lines(refused, []line{{mount(), power()}}), false, false},
		{"let go by a mount that was refused, the power there again", lines(refused, ok(restore())), false, true},
		{"mounted again", ok(mount()), true, true},
		{"mounted again behind a restore", gone(revoke(7)), true, true},
		{"mounted again behind one that was refused", lines(refused, ok(restore(), mount())), true, true},
		{"mounted again, the power gone anew", lines(gone(revoke(7)), out), true, false},
	}
}

// kind is a step, and all that it may be answered behind ready, by a rom that has power.
type kind struct {
	step api.Step
	may  []api.Answer
}

func eachKind() []kind {
	acts := []api.Answer{fine(), worn(), power()}
	return []kind{
		{read(0), []api.Answer{value(6)}}, {read(1), []api.Answer{value(20)}}, {read(2), []api.Answer{fails(api.ErrRange)}},
		{bump(0), []api.Answer{value(7), worn(), power()}}, {bump(2), []api.Answer{fails(api.ErrRange)}},
		{bumpTo(0, 7), acts}, {bumpTo(0, 6), acts[:1]}, {bumpTo(0, 40), []api.Answer{fails(api.ErrSaturated)}}, {bumpTo(2, 7), []api.Answer{fails(api.ErrRange)}},
		{revoke(2), []api.Answer{fine(), power()}}, {revoke(1), acts[:1]}, {revoke(8), []api.Answer{fails(api.ErrRange)}},
		{revoked(1), []api.Answer{yes()}}, {revoked(2), acts[:1]}, {revoked(8), []api.Answer{fails(api.ErrRange)}},
		{boot(sized(0, 9, 60)), []api.Answer{value(9)}}, {boot(nil), []api.Answer{fails(api.ErrShort)}},
		{stage(sized(0, 9, 60)), acts}, {stage(nil), []api.Answer{fails(api.ErrShort)}}, {stage(sized(0, 9, 481)), []api.Answer{fails(api.ErrBytes)}},
		{start(), []api.Answer{started(sized(0, 7, 80))}},
		{mount(), acts[:1]}, {cut(3, 0x0f), acts[:1]}, {cut(-1), acts[:1]}, {restore(), acts[:1]}, {quote("n"), acts[:1]}, {quote(""), acts[:1]},
	}
}

// P19.1: each kind of step with a rom and power, without a rom, and without power, answered as it may be, and in every other way.
func TestEachKind(t *testing.T) {
	j := on(wide())
	for _, y := range ways() {
		for _, x := range append(eachKind(), kind{confirm(), []api.Answer{fine(), worn(), power()}}) {
			may := x.may
			switch {
			case is(x.step, api.StepCut, api.StepRestore):
			case x.step.Kind == api.StepMount:
				if !y.power {
					may = []api.Answer{power()}
				}
			case !y.rom:
				may = []api.Answer{fails(api.ErrState)}
			case x.step.Kind == api.StepQuote:
			case !y.power:
				may = []api.Answer{power()}
			case x.step.Kind == api.StepConfirm && y.lines != nil:
				may = []api.Answer{fails(api.ErrState)} // behind a mount nothing was handed off
			}
			j.just(t, lines(ready(), y.lines), x.step, may...)
			if t.Failed() {
				t.Fatal(y.name)
			}
		}
	}
}

// P19.1: kinds that are none: the number below the first, the one above the last, negative ones, the greatest and the least: ErrKind, with a rom or not, with power or not; nothing changes.
func TestNoKinds(t *testing.T) {
	j := on(wide())
	for _, y := range ways() {
		for _, n := range []int{0, 14, 15, -1, -2, -13, 99, 256 + api.StepRead, math.MaxInt32, math.MaxInt, math.MinInt} {
			none := line{api.Step{Kind: n, N: 1, V: 30, Bytes: sized(0, 9, 60)}, fails(api.ErrKind)}
			j.just(t, lines(ready(), y.lines), none.step, none.answer)
			ahead := lines(ready(), y.lines, []line{none})
			if y.rom && y.power {
				j.just(t, ahead, read(1), value(20))
				j.just(t, ahead, start(), started(sized(0, 7, 80)))
			}
		}
	}
}

// P19.1: Acts are not looked at, nor the Hash of quotes; but all else of a quote is.
func TestNotLookedAt(t *testing.T) {
	j := on(wide())
	l := lines(ready(), ok(quote("n"), cut(0)), []line{{start(), started(sized(0, 7, 80))}, {read(1), value(20)}, {bump(1), power()}, {quote("n"), fine()}, {mount(), power()}, {quote("m"), fails(api.ErrState)}, {read(0), fails(api.ErrState)}}, ok(restore(), mount(), quote("n")))
	for _, acts := range []int{0, 1, -1, 1000, math.MaxInt, math.MinInt} {
		for _, h := range []api.Hash{{}, {1}, {31: 0xff}, started(sized(0, 7, 80)).Hash} {
			other := slices.Clone(l)
			for i := range other {
				other[i].answer.Acts = acts - i
				if other[i].step.Kind == api.StepQuote {
					other[i].answer.Hash = h
				}
			}
			j.explained(t, other)
		}
	}
	j.just(t, ready(), quote("n"), fine())
}

// P19.1: fields of a step that its kind does not name are not looked at.
func TestFields(t *testing.T) {
	j := on(wide())
	for _, x := range append(eachKind(), kind{confirm(), []api.Answer{fine(), worn(), power()}}) {
		s := x.step
		if !is(s, api.StepRead, api.StepBump, api.StepBumpTo, api.StepRevoke, api.StepRevoked) {
			s.N = 77
		}
		if s.Kind != api.StepBumpTo {
			s.V = -5
		}
		if !is(s, api.StepBoot, api.StepStage) {
			s.Bytes = sized(0, 11, 70)
		}
		j.just(t, ready(), s, x.may...)
	}
}

// P19.1: StepRead and StepBump with slots at the edges, and values up to the last one.
func TestReadAndBump(t *testing.T) {
	j := on(wide())
	for _, n := range []int{-1, 2, 3, 8, math.MaxInt, math.MinInt} {
		j.just(t, ready(), read(n), fails(api.ErrRange))
		j.just(t, ready(), bump(n), fails(api.ErrRange))
		j.just(t, ready(), bumpTo(n, 7), fails(api.ErrRange))
		j.just(t, ready(), bumpTo(n, 0), fails(api.ErrRange))
	}
	j.just(t, nil, read(0), value(0))
	j.just(t, nil, read(1), value(0))
	j.just(t, nil, bump(1), value(1), worn(), power())
	for _, v := range []int64{1, 2, 9, 10, 37} {
		ahead := ok(bumpTo(1, v))
		j.just(t, ahead, read(1), value(v))
		j.just(t, ahead, read(0), value(0))
		j.just(t, ahead, bump(1), value(v+1), worn(), power())
		j.just(t, lines(ahead, []line{{bump(1), value(v + 1)}}), read(1), value(v+1))
	}
	j.just(t, ok(bumpTo(1, 38)), bump(1), value(39), worn(), power())
	j.just(t, ok(bumpTo(1, 39)), bump(1), fails(api.ErrSaturated))
	j.just(t, lines(ok(bumpTo(1, 39)), []line{{bump(1), fails(api.ErrSaturated)}}), read(1), value(39))
	j.just(t, ok(bumpTo(1, 39)), bump(0), value(1), worn(), power())
	greatest := api.Config{Cells: 11, Slots: 8, Fuses: 64, Step: 65536, Keys: 64}
	j = on(greatest)
	j.just(t, nil, read(7), value(0))
	j.just(t, nil, read(8), fails(api.ErrRange))
	j.just(t, ok(bumpTo(7, 64*65536+65535)), read(7), value(4259839))
	j.just(t, ok(bumpTo(7, 4259838)), bump(7), value(4259839), worn(), power())
	j.just(t, ok(bumpTo(7, 4259839)), bump(7), fails(api.ErrSaturated))
	j = on(api.Config{Cells: 4, Slots: 1, Fuses: 1, Step: 1, Keys: 1})
	j.just(t, nil, bump(0), value(1), worn(), power())
	j.just(t, []line{{bump(0), value(1)}}, bump(0), fails(api.ErrSaturated))
}

// P19.1: StepBumpTo with values below, at and above the one that is there, and at the last that may be.
func TestBumpTo(t *testing.T) {
	j := on(wide())
	for _, v := range []int64{0, 1, 5, 6} {
		j.just(t, ready(), bumpTo(0, v), fine())
		j.just(t, lines(ready(), ok(bumpTo(0, v))), read(0), value(6))
	}
	for _, v := range []int64{7, 10, 38, 39} {
		j.just(t, ready(), bumpTo(0, v), fine(), worn(), power())
		j.just(t, lines(ready(), ok(bumpTo(0, v))), read(0), value(v))
		j.just(t, lines(ready(), ok(bumpTo(0, v))), bumpTo(0, v), fine())
		j.just(t, lines(ready(), []line{{bumpTo(0, v), worn()}}), read(0), value(6))
		j.just(t, lines(ready(), ok(bumpTo(0, v))), read(1), value(20))
	}
	for _, v := range []int64{40, 41, 1 << 32, 1 << 62, math.MaxInt64} {
		j.just(t, ready(), bumpTo(0, v), fails(api.ErrSaturated))
		j.just(t, lines(ready(), []line{{bumpTo(0, v), fails(api.ErrSaturated)}}), read(0), value(6))
	}
	for _, v := range []int64{-1, -6, math.MinInt64} {
		j.just(t, ready(), bumpTo(0, v), fails(api.ErrRange))
	}
	j.just(t, nil, bumpTo(0, 0), fine())
	j.just(t, nil, bumpTo(1, -1), fails(api.ErrRange))
	j.just(t, nil, bumpTo(-1, -1), fails(api.ErrRange))
	j.just(t, nil, bumpTo(2, 40), fails(api.ErrRange))
}

// P19.1: StepRevoke and StepRevoked with keys at the edges; twice in a row.
func TestRevoke(t *testing.T) {
	for _, keys := range []int{1, 8, 63, 64} {
		g := wide()
		g.Keys = keys
		j := on(g)
		for _, n := range []int{-1, keys, keys + 1, 65, math.MaxInt, math.MinInt} {
			j.just(t, nil, revoke(n), fails(api.ErrRange))
			j.just(t, nil, revoked(n), fails(api.ErrRange))
		}
		for _, n := range []int{0, keys / 2, keys - 1} {
			j.just(t, nil, revoke(n), fine(), power())
			j.just(t, nil, revoked(n), fine())
			j.just(t, ok(revoke(n)), revoked(n), yes())
			j.just(t, ok(revoke(n)), revoke(n), fine())
			j.just(t, ok(revoke(n), revoke(n)), revoked(n), yes())
			for other := range keys {
				if other != n {
					j.explained(t, ok(revoke(n), revoked(other)))
					j.unexplained(t, 1, ok(revoke(n)), []line{{revoked(other), yes()}})
				}
			}
		}
	}
}

// P19.1: StepConfirm with nothing handed off, behind Boots and Starts that were refused and such as were answered OK, twice in a row, and with the slot's value below, at and above the version.
func TestConfirm(t *testing.T) {
	j := on(wide())
	state, acts := fails(api.ErrState), []api.Answer{fine(), worn(), power()}
	b := sized(0, 9, 60)
	booted, refused := []line{{boot(b), value(9)}}, []line{{boot(b[:59]), fails(api.ErrShort)}}
	staged := ok(stage(b))
	begun, empty := []line{{start(), started(b)}}, []line{{start(), fails(api.ErrNone)}}
	j.just(t, nil, confirm(), state)
	j.just(t, refused, confirm(), state)
	j.just(t, empty, confirm(), state)
	j.just(t, staged, confirm(), state)
	j.just(t, lines(booted, refused), confirm(), state)
	j.just(t, lines(booted, empty), confirm(), state)
	j.just(t, lines(staged, begun, refused), confirm(), state)
	j.just(t, lines(booted, ok(mount())), confirm(), state)
	j.just(t, booted, confirm(), acts...)
	j.just(t, lines(refused, booted), confirm(), acts...)
	j.just(t, lines(staged, begun), confirm(), acts...)
	j.just(t, lines(staged, refused, begun), confirm(), acts...)
	j.just(t, lines(booted, ok(revoke(0), stage(right(0, 2, 3))), ok(cut(0), quote("n"))), confirm(), acts...) // it stays what was handed off
	for _, ahead := range [][]line{booted, lines(staged, begun)} {
		confirmed := lines(ahead, ok(confirm()))
		j.just(t, confirmed, read(0), value(9))
		j.just(t, confirmed, read(1), value(0))
		j.just(t, confirmed, confirm(), fine())
		j.just(t, lines(ahead, ok(bumpTo(0, 8))), confirm(), acts...)
		j.just(t, lines(ahead, ok(bumpTo(0, 9))), confirm(), fine())
		j.just(t, lines(ahead, ok(bumpTo(0, 30))), confirm(), fine())
		j.just(t, lines(ahead, ok(bumpTo(0, 30), confirm())), read(0), value(30))
		j.just(t, lines(ahead, ok(bumpTo(1, 30))), confirm(), acts...)
		j.just(t, lines(ahead, []line{{confirm(), worn()}}), read(0), value(0))
		j.just(t, lines(ahead, []line{{confirm(), worn()}}), confirm(), acts...)
	}
	other := []line{{boot(right(1, 3, 39)), value(39)}}
	j.just(t, lines(booted, other, ok(confirm())), read(1), value(39))
	j.just(t, lines(booted, other, ok(confirm())), read(0), value(0))
	j.just(t, []line{{boot(right(1, 3, 0)), value(0)}}, confirm(), fine()) // a version that the value is at already
}

// P19.1: ErrWorn where acts are done: nothing changes, as often as it is told; where none are, it is not explained.
func TestWorn(t *testing.T) {
	j := on(wide())
	b := sized(0, 9, 60)
	ahead := lines(ready(), []line{{boot(right(1, 2, 23)), value(23)}})
	refused := []line{{bump(0), worn()}, {bumpTo(0, 9), worn()}, {confirm(), worn()}, {stage(b), worn()}}
	for _, l := range [][]line{refused, times(3, refused...)} {
		behind := lines(ahead, l)
		j.just(t, behind, read(0), value(6))
		j.just(t, behind, read(1), value(20))
		j.just(t, behind, start(), started(sized(0, 7, 80)))
		j.just(t, behind, bump(0), value(7), worn(), power())
		j.just(t, behind, confirm(), fine(), worn(), power())
		j.just(t, lines(behind, ok(revoke(0))), start(), fails(api.ErrNone))
	}
	for _, x := range []api.Step{read(0), bump(2), bumpTo(0, 6), bumpTo(0, 40), revoke(2), revoke(1), revoked(0), boot(b), boot(nil), stage(nil), stage(sized(0, 9, 481)), stage(sized(0, 5, 60)), start(), mount(), cut(0), restore(), quote("n"), {}} {
		j.unexplained(t, len(ready()), ready(), []line{{x, worn()}})
	}
	j.unexplained(t, 2, ok(bumpTo(0, 39)), []line{{boot(right(0, 0, 39)), value(39)}, {confirm(), worn()}})
	j.unexplained(t, 0, []line{{confirm(), worn()}})
}
