package model_test

import (
	"iter"
	"math/rand"
	"slices"
	"sync"
	"testing"

	"portcullis/api"
	"portcullis/drive"
	"portcullis/image"
	"portcullis/model"
)

func row(r *rand.Rand, n int) []byte {
	b := make([]byte, n)
	r.Read(b)
	return b
}

// masks are of zeros, of ones, and mixed ones.
func masks(r *rand.Rand) [][]byte {
	return [][]byte{nil, {0}, {0xff}, {0x0f}, {0xff, 0x00}, {0x00, 0xff, 0xff}, row(r, 32), row(r, 7), row(r, 200)}
}

func configs() []api.Config {
	return []api.Config{
		{Cells: 5, Slots: 2, Fuses: 3, Step: 10, Keys: 4, Erases: 9, Area: 3},
		{Cells: 16, Slots: 1, Fuses: 2, Step: 100, Keys: 2, Erases: 3, Area: 1},
		{Cells: 4, Slots: 1, Fuses: 2, Step: 8, Keys: 3, Area: 4},
		{Cells: 11, Slots: 8, Fuses: 2, Step: 20, Keys: 4, Erases: 3, Area: 1},
		{Cells: 8, Slots: 1, Fuses: 2, Step: 50, Keys: 3, Erases: 3},
		{Cells: 6, Slots: 2, Fuses: 20, Step: 1, Keys: 3, Erases: 7, Area: 2},
	}
}

// unworn is one of them, of which no page is ever worn.
func unworn(i int) api.Config {
	g := configs()[i%len(configs())]
	g.Erases = 65536
	return g
}

// played are the lines of a script that is played on a chip.
func (j job) played(t *testing.T, script []api.Step) []line {
	t.Helper()
	answers, e := drive.Run(j.config, j.secrets(), []byte("own"), script)
	if e != api.OK {
		t.Fatal(e)
	}
	var l []line
	for i, s := range script {
		l = append(l, line{s, answers[i]})
	}
	return l
}

// seen are steps that look at all that a chip holds: first at what is started, then, one image being refused behind the other, at what else is there.
func seen(g api.Config) []api.Step {
	l := []api.Step{start()}
	for slot := range g.Slots {
		l = append(l, read(slot))
	}
	for key := range g.Keys {
		l = append(l, revoked(key), revoke(key), start())
	}
	return l
}

// body has every kind of step, over logs that are turned and areas that are erased.
func body(slots int) []api.Step {
	last := slots - 1
	return []api.Step{
		start(), stage(sized(0, 1, 60)), start(), bump(0), bump(last), boot(sized(1, 3, 90)), confirm(), stage(sized(1, 4, 130)), quote("n"), start(), confirm(), bumpTo(last, 6),
		revoke(0), revoked(0), read(0), stage(right(last, 1, 7, 5)), start(), mount(), confirm(), bump(0), bumpTo(0, 8), revoke(0), {}, stage(right(last, 1, 9, 1, 2)), stage(sized(1, 9, 128)), boot(nil), confirm(), bump(last), restore(), read(0), mount(), start(), confirm(),
	}
}

// cutAtEach are scripts in which the power goes at each act of a body; it comes again, and the body goes on from the step that was cut, or all is looked at.
func cutAtEach(t *testing.T, r *rand.Rand) iter.Seq2[job, []api.Step] {
	return func(yield func(job, []api.Step) bool) {
		for _, g := range configs() {
			j, steps, acts := on(g), body(g.Slots), 0
			for i, x := range j.played(t, steps) {
				for at := range x.answer.Acts - acts {
					for _, mask := range masks(r) {
						again := []api.Step{cut(at, mask...), x.step, read(0), quote("m"), mount(), restore(), start(), mount(), start()}
						if !yield(j, slices.Concat(steps[:i], again, steps[i:], seen(g))) || !yield(j, slices.Concat(steps[:i], again, seen(g))) {
							return
						}
					}
				}
				acts = x.answer.Acts
			}
		}
	}
}

// P19.2 (W1): answers of drive.Run to scripts of every kind of step, with a cut at each act, are explained.
func TestW1CutAtEach(t *testing.T) {
	r := rand.New(rand.NewSource(1))
	scripts, kinds := 0, map[int]int{}
	for j, script := range cutAtEach(t, r) {
		l := j.played(t, script)
		j.explained(t, l)
		if t.Failed() {
			t.FailNow()
		}
		scripts++
		for _, x := range l {
			if x.answer.E == api.ErrPower {
				kinds[x.step.Kind]++
			}
		}
	}
	for _, kind := range []int{api.StepBump, api.StepBumpTo, api.StepRevoke, api.StepConfirm, api.StepStage} {
		if kinds[kind] < 30 {
			t.Errorf("%d times the power went at the kind %d", kinds[kind], kind)
		}
	}
	if scripts < 2000 {
		t.Errorf("%d scripts", scripts)
	}
}

// anyImage is one that may be started more often than not; there are not many of them, so that some are staged twice.
func anyImage(r *rand.Rand, g api.Config) []byte {
	slot, key := r.Intn(g.Slots), r.Intn(3)
	b := right(slot, key, r.Int63n(12), slices.Repeat([]byte{7}, 10*r.Intn(6))...)
	switch r.Intn(16) {
	case 0:
		return b[:r.Intn(len(b))]
	case 1:
		return turned(b, r.Intn(8*len(b)))
	case 2:
		return append(b, row(r, r.Intn(200))...)
	case 3:
		return signed(r.Intn(4), slot, key, 9)
	case 4:
		return right(r.Intn(3), r.Intn(10), 9, make([]byte, 600)...)
	}
	return b
}

// anyStep is one of any kind that asks a rom.
func anyStep(r *rand.Rand, g api.Config) api.Step {
	slot, key := r.Intn(g.Slots+2)-1, r.Intn(g.Keys+2)-1
	if r.Intn(3) > 0 {
		slot = 0
	}
	switch r.Intn(15) {
	case 0, 1:
		return read(slot)
	case 2, 3:
		return bump(slot)
	case 4:
		return bumpTo(slot, []int64{-1, 0, 1, 2, 3, 5, 8, 9, 12, 39, 40, 1000}[r.Intn(12)])
	case 5:
		if r.Intn(3) > 0 { // seldom, so that images are left that may be started
			return revoked(key)
		}
		return revoke(key)
	case 6:
		return revoked(key)
	case 7:
		return boot(anyImage(r, g))
	case 8, 9:
		return confirm()
	case 10, 11:
		return stage(anyImage(r, g))
	case 12, 13:
		return start()
	}
	return []api.Step{quote("n"), mount(), {Kind: r.Intn(40) - 20}}[r.Intn(3)]
}

// outs are the numbers of the steps at which the power went.
func outs(l []line) []int {
	var at []int
	power := true
	for i, x := range l {
		if x.step.Kind == api.StepRestore {
			power = true
		} else if x.answer.E == api.ErrPower && power {
			at, power = append(at, i), false
		}
	}
	return at
}

// P19.2 (W1): answers of drive.Run to scripts by chance are explained, if the power goes MaxCuts times at most; else the step at which it goes once more is told.
func TestW1AnyScript(t *testing.T) {
	r := rand.New(rand.NewSource(2))
	seen := map[int]int{}
	for i := range 1500 {
		g := configs()[i%len(configs())]
		g.Erases = r.Intn(30)
		j := on(g)
		var script []api.Step
		for len(script) < 30+i%200 {
			if r.Intn(4) > 0 {
				mask := masks(r)
				script = append(script, cut(r.Intn(7)-1, mask[r.Intn(len(mask))]...))
			}
			for range 1 + r.Intn(10) {
				script = append(script, anyStep(r, g))
			}
			script = append(script, restore(), mount())
		}
		l := j.played(t, script)
		at := outs(l)
		seen[len(at)]++
		if len(at) > mostCuts {
			j.unexplained(t, at[mostCuts], l)
		} else {
			j.explained(t, l)
		}
		if t.Failed() {
			t.FailNow()
		}
	}
	for n := range mostCuts + 2 {
		if seen[n] == 0 {
			t.Errorf("no script with %d cuts: %v", n, seen)
		}
	}
}

// anyLines are answered by a rom, where the power goes, and pages are worn, by chance alone.
func anyLines(r *rand.Rand, j job, n, cuts int) []line {
	b := begun(j)
	var l []line
	for len(l) < n {
		x := line{step: anyStep(r, j.config)}
		switch out := b.chip.Out(); {
		case out && r.Intn(3) > 0, r.Intn(30) == 0:
			x.step = restore()
		case !out && b.rom == nil && r.Intn(4) > 0:
			x.step = mount()
		}
		way := r.Intn(2)
		if x.step.Kind == api.StepStage {
			way = r.Intn(4)
		}
		switch {
		case cuts > 0 && r.Intn(4) == 0 && b.asks(x.step) && b.goes(x.step, way):
			x.answer = power()
			cuts--
		case r.Intn(8) == 0 && wears(x.step) && b.asks(x.step) && b.goes(x.step, none):
			x.answer = worn()
			b.chip.Restore()
		default:
			x.answer = b.answer(x.step)
		}
		l = append(l, x)
	}
	return l
}

// changed are lines with another answer to one of them, which is one that it might have been more often than not.
func changed(r *rand.Rand, l []line) []line {
	l = slices.Clone(l)
	x := &l[r.Intn(len(l))]
	switch {
	case r.Intn(4) == 0:
		x.answer = []api.Answer{fine(), power(), worn(), fails(api.ErrState), fails(api.ErrRevoked), fails(api.ErrVersion), fails(api.ErrSaturated)}[r.Intn(7)]
	case is(x.step, api.StepRead, api.StepBump, api.StepBoot):
		x.answer.V += r.Int63n(5) - 2
	case x.step.Kind == api.StepRevoked:
		x.answer.Is = !x.answer.Is
	case x.step.Kind == api.StepStart:
		x.answer = fails(api.ErrNone)
		y := l[r.Intn(len(l))].step
		if _, err := image.Parse(y.Bytes); y.Kind == api.StepStage && err == nil {
			x.answer = started(y.Bytes)
		}
	default:
		x.answer = fails([]api.Errno{api.OK, api.ErrPower, api.ErrWorn}[r.Intn(3)])
	}
	return l
}

// P19.1: lines that roms have answered, and such with other answers to some of them: Explains tells what is told by roms on chips on which the power went in each of the ways.
func TestBesideRoms(t *testing.T) {
	r := rand.New(rand.NewSource(3))
	told := map[bool]int{}
	for i := range 1200 {
		j := on(unworn(i))
		l := anyLines(r, j, 15+r.Intn(30), i%6)
		j.explained(t, l)
		for range 4 {
			want, wantAt := j.byRoms(l)
			is, at := j.explains(l)
			if is != want || at != wantAt {
				t.Fatalf("%v, %d, want %v, %d:\n%s", is, at, want, wantAt, text(l))
			}
			told[is]++
			l = changed(r, l)
		}
	}
	if told[true] < 1500 || told[false] < 1500 {
		t.Errorf("%v", told)
	}
}

// P19.3: lines that are explained stay so, cut short at every place; such as are not are explained up to the step that is told, and not from there on.
func TestCutShort(t *testing.T) {
	r := rand.New(rand.NewSource(4))
	unlike := 0
	for i := range 120 {
		j := on(unworn(i))
		l := anyLines(r, j, 40, i%(mostCuts+1))
		if i%2 == 1 {
			l = changed(r, l)
		}
		is, at := j.explains(l)
		if !is {
			unlike++
		}
		for n := range len(l) + 1 {
			if !is && n > at {
				j.unexplained(t, at, l[:n])
			} else {
				j.explained(t, l[:n])
			}
		}
		if t.Failed() {
			t.FailNow()
		}
	}
	if unlike < 20 {
		t.Errorf("%d of the lines are not explained", unlike)
	}
}

// R4: the same call has the same answer, run twice and many at one time.
func TestOneAnswer(t *testing.T) {
	r := rand.New(rand.NewSource(5))
	var wait sync.WaitGroup
	for i := range 40 {
		j := on(unworn(i))
		l := anyLines(r, j, 40, 5)
		if i%2 == 1 {
			l = changed(r, l)
		}
		script, answers := split(l)
		secrets := j.secrets()
		is, at := model.Explains(j.config, secrets, script, answers)
		for range 4 {
			wait.Add(1)
			go func() {
				defer wait.Done()
				for range 3 {
					if again, place := model.Explains(j.config, secrets, script, answers); again != is || place != at {
						t.Errorf("%v, %d, and then %v, %d", is, at, again, place)
					}
				}
			}()
		}
	}
	wait.Wait()
}

// R4: the order of the secrets does not matter, nor what was asked before.
func TestOrderOfSecrets(t *testing.T) {
	r := rand.New(rand.NewSource(6))
	for range 30 {
		j := on(wide())
		l := anyLines(r, j, 40, 3)
		r.Shuffle(len(j.known), func(a, b int) { j.known[a], j.known[b] = j.known[b], j.known[a] })
		j.explained(t, l)
	}
}

// roomy is a list with something behind its length, and all of it.
func roomy[T any](l []T, behind T) (short, whole []T) {
	whole = append(slices.Clone(l), behind, behind, behind)
	return whole[:len(l)], whole
}

// R3: secrets, scripts, answers and the bytes in them stay as they were, also in the room behind their length.
func TestMemory(t *testing.T) {
	r := rand.New(rand.NewSource(7))
	for i := range 30 {
		j := on(wide())
		l := lines(ready(), anyLines(r, j, 30, 4))
		if i%2 == 0 {
			l = anyLines(r, j, 40, 4)
		}
		var rows, were [][]byte
		spare := func(b []byte) []byte {
			short, whole := roomy(b, 0xa5)
			rows, were = append(rows, whole), append(were, slices.Clone(whole))
			return short
		}
		script, answers := split(l)
		for k := range script {
			script[k].Bytes = spare(script[k].Bytes)
		}
		secrets := j.secrets()
		for k := range secrets {
			secrets[k].Bytes = spare(secrets[k].Bytes)
		}
		script, steps := roomy(script, stage(spare(imageA())))
		answers, told := roomy(answers, api.Answer{V: 77})
		secrets, ring := roomy(secrets, api.Secret{Key: 6, Bytes: spare([]byte("k"))})
		wasSteps, wasTold, wasRing := slices.Clone(steps), slices.Clone(told), slices.Clone(ring)
		model.Explains(j.config, secrets, script, answers)
		sameStep := func(a, b api.Step) bool {
			return a.Kind == b.Kind && a.N == b.N && a.V == b.V && slices.Equal(a.Bytes, b.Bytes)
		}
		sameSecret := func(a, b api.Secret) bool { return a.Key == b.Key && slices.Equal(a.Bytes, b.Bytes) }
		if !slices.EqualFunc(steps, wasSteps, sameStep) || !slices.Equal(told, wasTold) || !slices.EqualFunc(ring, wasRing, sameSecret) {
			t.Fatal("a list is another one")
		}
		if !slices.EqualFunc(rows, were, slices.Equal[[]byte]) {
			t.Fatal("bytes are others")
		}
	}
}

// R3: nothing is kept: what is written over behind one call does not come to light in the next one.
func TestNothingKept(t *testing.T) {
	j := on(wide())
	b := imageA()
	l := []line{{stage(b), fine()}, {start(), started(b)}}
	j.explained(t, l)
	was := started(b)
	copy(b, imageD()[:60])
	j.unexplained(t, 0, []line{{stage(b), fine()}, {start(), was}})
	copy(b, imageA())
	j.explained(t, l)
}
