package drive_test

import (
	"iter"
	"math/rand"
	"slices"
	"testing"

	"portcullis/api"
	"portcullis/chip"
	"portcullis/rom"
)

// looked are steps that look at all that a chip holds.
func looked(g api.Config) []api.Step {
	var l []api.Step
	for slot := range g.Slots {
		l = append(l, read(slot))
	}
	for key := range g.Keys {
		l = append(l, revoked(key))
	}
	return append(l, start())
}

// bodies are scripts without cuts, which have every kind of step that asks a rom, over logs that are turned and areas that are erased.
func bodies() []struct {
	config api.Config
	steps  []api.Step
} {
	worn := several()
	worn.Erases = 9
	whole := []api.Step{start(), stage(sized(0, 1, 60)), start(), bump(0), bump(1), boot(sized(2, 3, 90)), confirm(), stage(sized(0, 4, 130)), quote("n"), start(), confirm(), bumpTo(1, 25),
		revoke(1), revoked(1), read(0), stage(right(1, 2, 39, 5)), start(), confirm(), bump(0), bumpTo(0, 31), revoke(1), quote("m"), stage(sized(0, 35, 300)), revoke(2), boot(sized(0, 31, 70)), confirm()}
	return []struct {
		config api.Config
		steps  []api.Step
	}{
		{worn, whole},
		{several(), []api.Step{stage(sized(0, 1, 60)), stage(sized(0, 2, 60)), stage(sized(0, 3, 60)), bump(0), stage(sized(0, 4, 60))}},
		{chapter(), times(9, bump(0))},
		{unerased(), []api.Step{bump(0), stage(sized(0, 2, 100)), boot(sized(1, 9, 60)), stage(sized(0, 3, 60)), bump(0), start(), confirm(), stage(sized(0, 5, 60))}},
		{single(), []api.Step{bump(0), bumpTo(1, 7), stage(sized(0, 9, 200)), start(), confirm(), bump(1), stage(sized(1, 9, 60)), revoke(1), start()}},
		{tight(), []api.Step{bump(0), bumpTo(7, 45), bump(3), bump(5), bump(6), bump(1), bump(2), bump(4), stage(sized(0, 9, 60)), start(), confirm(), bump(7)}},
	}
}

// cutAtEach are scripts in which the power goes at each act of a body, with masks of zeros, of ones and mixed ones; it comes again, all is looked at, and the body goes on from the step that was cut.
func cutAtEach(r *rand.Rand) iter.Seq2[job, []api.Step] {
	return func(yield func(job, []api.Step) bool) {
		for _, y := range bodies() {
			j := on(y.config)
			p := begun(j)
			for i, s := range y.steps {
				was := p.acts
				p.step(s)
				for at := range p.acts - was {
					for _, mask := range masks(r) {
						again := []api.Step{cut(at, mask...), s, restore(), mount()}
						script := steps(y.steps[:i], again, looked(y.config), y.steps[i:], looked(y.config))
						if !yield(j, script) {
							return
						}
					}
				}
			}
		}
	}
}

// corpus are scripts in which the power goes at each act, and such by chance.
func corpus(seed int64) iter.Seq2[job, []api.Step] {
	return func(yield func(job, []api.Step) bool) {
		r := rand.New(rand.NewSource(seed))
		for j, script := range cutAtEach(r) {
			if !yield(j, script) {
				return
			}
		}
		for i := range 400 {
			j := on(configs()[i%len(configs())])
			j.config.Erases = r.Intn(12)
			if !yield(j, append(anyScript(r, j, 50), append([]api.Step{restore(), mount()}, looked(j.config)...)...)) {
				return
			}
		}
	}
}

// outs are the numbers of the steps at which the power went.
func outs(script []api.Step, answers []api.Answer) []int {
	var l []int
	power := true
	for i, a := range answers {
		switch {
		case script[i].Kind == api.StepRestore:
			power = true
		case power && a.E == api.ErrPower:
			l, power = append(l, i), false
		}
	}
	return l
}

// P18.1: every script of the corpus is answered by the words, and leaves what they say.
func TestCorpus(t *testing.T) {
	seen := map[[2]int]int{}
	for j, script := range corpus(11) {
		for i, a := range j.plays(t, script...) {
			seen[[2]int{script[i].Kind, int(a.E)}]++
		}
	}
	for _, y := range []struct {
		kind int
		l    []api.Errno
	}{
		{api.StepRead, []api.Errno{api.OK, api.ErrRange, api.ErrPower, api.ErrState}},
		{api.StepBump, []api.Errno{api.OK, api.ErrRange, api.ErrPower, api.ErrWorn, api.ErrSaturated, api.ErrState}},
		{api.StepBumpTo, []api.Errno{api.OK, api.ErrRange, api.ErrPower, api.ErrWorn, api.ErrSaturated, api.ErrState}},
		{api.StepRevoke, []api.Errno{api.OK, api.ErrRange, api.ErrPower, api.ErrState}},
		{api.StepRevoked, []api.Errno{api.OK, api.ErrRange, api.ErrPower, api.ErrState}},
		{api.StepBoot, []api.Errno{api.OK, api.ErrForm, api.ErrShort, api.ErrRest, api.ErrPower, api.ErrState, api.ErrRevoked, api.ErrTag, api.ErrVersion}},
		{api.StepConfirm, []api.Errno{api.OK, api.ErrPower, api.ErrWorn, api.ErrState}},
		{api.StepStage, []api.Errno{api.OK, api.ErrBytes, api.ErrForm, api.ErrShort, api.ErrRest, api.ErrPower, api.ErrWorn, api.ErrState, api.ErrRevoked, api.ErrTag, api.ErrVersion}},
		{api.StepStart, []api.Errno{api.OK, api.ErrPower, api.ErrState, api.ErrNone}},
		{api.StepMount, []api.Errno{api.OK, api.ErrPower}},
		{api.StepQuote, []api.Errno{api.OK, api.ErrState}},
	} {
		for _, e := range y.l {
			if seen[[2]int{y.kind, int(e)}] < 3 {
				t.Errorf("%s: %d: %d times", name(y.kind), e, seen[[2]int{y.kind, int(e)}])
			}
		}
	}
}

// W1: the answers are those of the model without a chip, in which each operation at which the power went took full effect or none.
func TestW1WholeOrNone(t *testing.T) {
	cuts := 0
	for j, script := range corpus(12) {
		l := j.run(t, script)
		n := len(outs(script, l))
		if n > mostCuts {
			continue
		}
		cuts += n
		if is, at := j.explained(script, l); !is {
			t.Fatalf("%+v: step %d of\n%sis not explained: %v", j.config, at, texts(script), l[at])
		}
	}
	if cuts < 2000 {
		t.Errorf("%d cuts", cuts)
	}
}

// The model explains what chapter 19's examples say that it explains, and nothing that these say it doesn't; nor any answer of a script without cuts but the one that it has.
func TestModel(t *testing.T) {
	j := on(chapter())
	ok, power := api.Answer{}, api.Answer{E: api.ErrPower}
	v := func(n int64) api.Answer { return api.Answer{V: n} }
	for i, y := range []struct {
		script  []api.Step
		answers []api.Answer
		want    bool
		at      int
	}{
		{[]api.Step{bump(0), read(0)}, []api.Answer{v(1), v(1)}, true, 0},
		{[]api.Step{bump(0), read(0)}, []api.Answer{v(1), v(2)}, false, 1},
		{[]api.Step{cut(0), bump(0), restore(), mount(), read(0)}, []api.Answer{ok, power, ok, ok, v(0)}, true, 0},
		{[]api.Step{cut(0), bump(0), restore(), mount(), read(0)}, []api.Answer{ok, power, ok, ok, v(1)}, true, 0},
		{[]api.Step{cut(0), bump(0), restore(), mount(), read(0)}, []api.Answer{ok, power, ok, ok, v(2)}, false, 4},
		{[]api.Step{cut(0), bump(0), restore(), mount(), read(0), read(0)}, []api.Answer{ok, power, ok, ok, v(0), v(1)}, false, 5},
		{[]api.Step{bump(0)}, []api.Answer{{E: api.ErrWorn}}, true, 0},
		{[]api.Step{bumpTo(0, 9)}, []api.Answer{ok}, false, 0},
	} {
		if is, at := j.explained(y.script, y.answers); is != y.want || at != y.at {
			t.Errorf("%d: %v, %d", i, is, at)
		}
	}
	j = on(several())
	script := steps(ready(), one())
	l := j.run(t, script)
	for i := range l {
		for n, change := range []func(a *api.Answer){
			func(a *api.Answer) { a.V++ },
			func(a *api.Answer) { a.Is = !a.Is },
			func(a *api.Answer) { a.Hash[5]++ },
			func(a *api.Answer) { *a = api.Answer{E: api.ErrKey} },
		} {
			other := slices.Clone(l)
			change(&other[i])
			if is, at := j.explained(script, other); (is || at != i) && !(n == 2 && script[i].Kind == api.StepQuote) {
				t.Errorf("%s, changed to %v: %v, %d", text(script[i]), other[i], is, at)
			}
		}
	}
}

// handedOff is the slot and the version of what a Boot or a Start that was answered OK has handed off.
func handedOff(script []api.Step, i int, a api.Answer) (int, int64) {
	b := script[i].Bytes
	if script[i].Kind == api.StepStart {
		at := slices.IndexFunc(script[:i], func(s api.Step) bool { return s.Kind == api.StepStage && hashOf(s.Bytes) == a.Hash })
		if at < 0 {
			return -1, 0
		}
		b = script[at].Bytes
	}
	x, _ := form(b)
	return x.Slot, x.Version
}

// W2: the values that reading a slot tells never fall; a counter is at least as far as the last bump or Confirm that was answered OK; a key that was revoked stays so; nothing older is handed off.
func TestW2NeverBack(t *testing.T) {
	for j, script := range corpus(13) {
		least, revoked := make([]int64, j.config.Slots), make([]bool, j.config.Keys)
		slot, version := -1, int64(0) // of what was handed off last
		for i, a := range j.run(t, script) {
			s := script[i]
			if a.E != api.OK {
				if is(s, api.StepBoot, api.StepStart) {
					slot = -1
				}
				continue
			}
			switch s.Kind {
			case api.StepRead, api.StepBump:
				if a.V < least[s.N] {
					t.Fatalf("step %d of\n%sthe value %d, behind %d", i, texts(script), a.V, least[s.N])
				}
				least[s.N] = a.V
			case api.StepBumpTo:
				least[s.N] = max(least[s.N], s.V)
			case api.StepRevoke:
				revoked[s.N] = true
			case api.StepRevoked:
				if revoked[s.N] && !a.Is {
					t.Fatalf("step %d of\n%sthe key %d is revoked no more", i, texts(script), s.N)
				}
				revoked[s.N] = a.Is
			case api.StepBoot, api.StepStart:
				slot, version = handedOff(script, i, a)
				if slot < 0 || version != a.V || version < least[slot] {
					t.Fatalf("step %d of\n%sthe version %d of the slot %d, behind %d", i, texts(script), version, slot, least)
				}
			case api.StepConfirm:
				least[slot] = max(least[slot], version)
			}
		}
	}
}

// W3: whatever cuts there were, a chip can be mounted, which does no act; each slot's value is at least Step times its blown fuses, whatever a flash holds that somebody else has laid there.
func TestW3AlwaysAlive(t *testing.T) {
	r := rand.New(rand.NewSource(14))
	n := 0
	for j, script := range corpus(14) {
		l := j.run(t, script)
		power := true
		for i, a := range l {
			if s := script[i]; s.Kind == api.StepMount {
				if a != (api.Answer{Acts: l[max(i, 1)-1].Acts}) && power || a.E != api.ErrPower && !power {
					t.Fatalf("step %d of\n%s%v", i, texts(script), a)
				}
			}
			power = script[i].Kind == api.StepRestore || power && a.E != api.ErrPower
		}
		if n++; n%7 == 0 {
			aliveWith(t, r, j, j.after(t, script))
		}
	}
}

// aliveWith mounts a chip as it is, with its flash erased by hand, and with anything in it.
func aliveWith(t *testing.T, r *rand.Rand, j job, s api.Chip) {
	t.Helper()
	for way := range 3 {
		for p := range s.Pages {
			for i := range s.Pages[p] {
				switch way {
				case 1:
					s.Pages[p][i] = filled(0xff)
				case 2:
					s.Pages[p][i] = []api.Cell{head(1 + r.Int63n(5)), value(r.Intn(j.config.Slots+1), 1+r.Int63n(30)), api.Cell(row(r, 32)), filled(0xff)}[r.Intn(4)]
				}
			}
		}
		c, e := chip.Lay(j.config, s)
		if e != api.OK {
			t.Fatal(e)
		}
		m, e := rom.Mount(c, j.secrets(), j.own)
		if e != api.OK || c.Acts() != 0 || !same(c.State(), s) {
			t.Fatalf("Mount: %v, %d acts", e, c.Acts())
		}
		w := words{j.config, s, j.known}
		for slot := range j.config.Slots {
			if v, e := m.Read(slot); e != api.OK || v < int64(j.config.Step*w.blown(slot)) || way == 1 && v != int64(j.config.Step*w.blown(slot)) {
				t.Fatalf("the slot %d: %d, %v, with %d fuses blown", slot, v, e, w.blown(slot))
			}
		}
	}
}

// W4: an image is handed off just if it has the form, its key is known and not revoked, its tag is right, and its version is from the slot's value on to the last one; else the first of these errors is told. A boot does no act.
func TestW4Gate(t *testing.T) {
	j := on(several())
	good := sized(0, 7, 90)
	acts := j.ends(t, ready()).Acts
	for _, y := range []struct {
		name string
		b    []byte
		want api.Errno
	}{
		{"good", good, api.OK},
		{"at the value", sized(0, 6, 90), api.OK},
		{"at the last version", sized(0, 39, 90), api.OK},
		{"of the slot 1", right(1, 2, 20, 7), api.OK},
		{"longer than an area", sized(0, 7, 2000), api.OK},
		{"none", nil, api.ErrShort},
		{"short", good[:89], api.ErrShort},
		{"of another form", turned(good, 0), api.ErrForm},
		{"a byte behind", append(slices.Clone(good), 0), api.ErrRest},
		{"more than an image", make([]byte, mostBytes+1), api.ErrBytes},
		{"no slot of the chip", right(2, 0, 7), api.ErrForm},
		{"no key of the ring", right(0, 5, 7), api.ErrKey},
		{"revoked", sized(1, 7, 90), api.ErrRevoked},
		{"signed by another", by(2, 0, 0, 7, []byte("p")), api.ErrTag},
		{"a bit of the tag", turned(good, 8*89), api.ErrTag},
		{"a bit of the version", turned(good, 8*8+4), api.ErrTag},
		{"below the value", sized(0, 5, 90), api.ErrVersion},
		{"below the other slot's", right(1, 0, 19), api.ErrVersion},
		{"above the last version", sized(0, 40, 90), api.ErrVersion},
		{"no slot, no key, signed by another, below", append(by(2, 7, 63, 1, nil), 0), api.ErrRest},
		{"no slot, no key", right(2, 5, 7), api.ErrForm},
		{"no key, signed by another, below", by(2, 0, 5, 1, nil), api.ErrKey},
		{"revoked, signed by another, below", by(2, 0, 1, 5, nil), api.ErrRevoked},
		{"signed by another, below", by(2, 0, 0, 5, nil), api.ErrTag},
	} {
		x, _ := form(y.b)
		want := api.Answer{E: y.want, V: x.Version, Acts: acts}
		if y.want != api.OK {
			want.V = 0
		}
		l := j.plays(t, steps(ready(), []api.Step{cut(0, 0xff), boot(y.b), boot(y.b), cut(-1), confirm(), boot(y.b)})...)
		l = l[len(ready()):]
		if l[1] != want || l[2] != want {
			t.Errorf("%s: %v, want %v", y.name, l[1:3], want)
		}
		if y.want == api.OK && l[4].E != api.OK || y.want != api.OK && l[4].E != api.ErrState || l[5].E != y.want {
			t.Errorf("%s: Confirm and Boot: %v", y.name, l[4:])
		}
	}
}

// W4: what was handed off once is refused behind a bump above it, behind a Confirm of a later one, behind its key's revocation; and not behind those of others. Every bit counts.
func TestW4GateMoves(t *testing.T) {
	j := on(several())
	b := sized(0, 10, 80)
	for _, y := range []struct {
		between []api.Step
		want    api.Errno
	}{
		{nil, api.OK}, {[]api.Step{bumpTo(0, 9)}, api.OK}, {[]api.Step{bumpTo(0, 10)}, api.OK}, {[]api.Step{bumpTo(0, 11)}, api.ErrVersion}, {[]api.Step{bumpTo(1, 39)}, api.OK},
		{[]api.Step{boot(sized(2, 11, 60))}, api.OK}, {[]api.Step{boot(sized(2, 11, 60)), confirm()}, api.ErrVersion}, {[]api.Step{boot(right(1, 2, 30)), confirm()}, api.OK},
		{[]api.Step{revoke(0)}, api.ErrRevoked}, {[]api.Step{revoke(1), revoke(2)}, api.OK},
		{[]api.Step{cut(0, 1), revoke(0), restore(), mount()}, api.ErrRevoked}, {[]api.Step{cut(0, 0xfe), revoke(0), restore(), mount()}, api.OK},
	} {
		for _, again := range [][]api.Step{nil, {mount()}, {restore(), mount()}} {
			l := j.plays(t, steps([]api.Step{stage(b), boot(b)}, y.between, again, []api.Step{boot(b), start()})...)
			started := y.want
			if started != api.OK {
				started = api.ErrNone
			}
			if l[1].E != api.OK || l[len(l)-2].E != y.want || l[len(l)-1].E != started {
				t.Errorf("behind %s%v, want %v", texts(y.between), l, y.want)
			}
		}
	}
	good := right(0, 0, 6, 1, 2, 3)
	var script []api.Step
	for bit := range 8 * len(good) {
		script = append(script, boot(turned(good, bit)))
	}
	for i, a := range j.plays(t, append(script, boot(good))...) {
		if (a.E == api.OK) != (i == 8*len(good)) {
			t.Errorf("the bit %d turned: %v", i, a)
		}
	}
}

// budget is chapter 20's: how many numbers are laid, before one is refused for wear.
func budget(c api.Config, cuts int) int {
	if cuts > c.Erases {
		return 0
	}
	return (2*(c.Erases-cuts) + 2) * (c.Cells - c.Slots - 1)
}

// mostActs is chapter 20's of a step.
func mostActs(c api.Config, kind int) int {
	switch kind {
	case api.StepBump, api.StepBumpTo, api.StepConfirm:
		return c.Slots + 3 + c.Fuses
	case api.StepRevoke:
		return 1
	case api.StepStage:
		return c.Slots + 3 + c.Area + c.Area*c.Cells
	}
	return 0
}

// wears holds a script against W5, step by step, and tells how many numbers were laid, and whether one was refused for wear.
func wears(t *testing.T, j job, script []api.Step) (laid int, refused bool) {
	t.Helper()
	p := begun(j)
	acts, cuts := 0, 0
	for i, a := range j.run(t, script) {
		s, out, soFar := script[i], p.out, len(p.history)
		area := s.Kind == api.StepStage && slices.ContainsFunc(p.pages(p.target()), p.spent) // it is the area that is worn
		p.step(s)
		if a.E == api.ErrWorn && !area {
			refused = true
			if laid < budget(j.config, cuts) {
				t.Fatalf("%+v: step %d of\n%sis refused behind %d numbers and %d cuts", j.config, i, texts(script), laid, cuts)
			}
		}
		if a.Acts-acts > mostActs(j.config, s.Kind) {
			t.Fatalf("%s: %d acts", text(s), a.Acts-acts)
		}
		acts = a.Acts
		if p.out && !out {
			cuts++
		}
		if a.E == api.OK && slices.ContainsFunc(p.history[soFar:], func(d done) bool { return d.act.kind == "program" && d.act.page < 2 }) {
			laid++
		}
	}
	erases := j.after(t, script).Erases
	if slices.Max(erases) > j.config.Erases {
		t.Fatalf("%+v: erased %d times", j.config, erases)
	}
	if apart := max(erases[0]-erases[1], erases[1]-erases[0]); apart > 1+cuts {
		t.Fatalf("%+v: erased %d times, with %d cuts, in\n%s", j.config, erases, cuts, texts(script))
	}
	return laid, refused
}

// W5: no page is erased more than Erases times; the erases of both pages of the log differ by one at most, and one more for each cut; no number is refused for wear ahead of the budget's end; no step does more acts than it may.
func TestW5Wear(t *testing.T) {
	worn := 0
	for j, script := range corpus(15) {
		if _, refused := wears(t, j, script); refused {
			worn++
		}
	}
	if worn < 20 {
		t.Errorf("%d scripts wore a chip out", worn)
	}
}

// W5: bumps up to the end of a chip, without cuts: just as many as the budget says, and one more for each cell that the first turns leave free; the erases stay even at each step.
func TestW5WithoutCuts(t *testing.T) {
	for _, g := range []api.Config{{Cells: 4, Slots: 1}, {Cells: 5, Slots: 1}, {Cells: 5, Slots: 2}, {Cells: 11, Slots: 8}, {Cells: 9, Slots: 3}} {
		for erases := range 4 {
			g.Fuses, g.Step, g.Keys, g.Erases = 2, 1000, 1, erases
			j := on(g)
			var script []api.Step
			for i := range 400 {
				script = append(script, bump(i%g.Slots))
			}
			laid, refused := wears(t, j, script)
			if !refused || laid < budget(g, 0) {
				t.Errorf("%+v: %d numbers, the budget %d", g, laid, budget(g, 0))
			}
			l := j.run(t, append(script, read(0)))
			if a := l[len(l)-1]; a.E != api.OK || a.V == 0 {
				t.Errorf("Read behind the end: %v", a)
			}
			for n := range 60 {
				if e := j.after(t, script[:n]).Erases; e[0]-e[1] > 1 || e[1]-e[0] > 1 {
					t.Fatalf("behind %d bumps: erased %d times", n, e)
				}
			}
		}
	}
}

// W5: cuts at the last act of a turn, which cost an erase each: there is no number refused ahead of the end of the budget that is left.
func TestW5CutTurns(t *testing.T) {
	for _, g := range []api.Config{{Cells: 5, Slots: 1}, {Cells: 5, Slots: 2}, {Cells: 9, Slots: 3}} {
		for most := range 5 {
			for _, mask := range [][]byte{nil, {0x0f}, {0xff}} {
				g.Fuses, g.Step, g.Keys, g.Erases = 2, 1000, 1, 4
				j := on(g)
				p := begun(j)
				var script []api.Step
				add := func(l ...api.Step) {
					for _, s := range l {
						p.step(s)
						script = append(script, s)
					}
				}
				for cuts := 0; len(script) < 300; {
					s := bump(len(script) % g.Slots)
					if _, l := p.bumpTo(s.N, p.value(s.N)+1); len(l) > 1 && l[0].kind == "erase" && cuts < most {
						cuts++
						add(cut(len(l)-1, mask...), s, restore(), mount())
						continue
					}
					add(s)
				}
				if laid, refused := wears(t, j, script); !refused || laid < budget(g, most) {
					t.Errorf("%+v, %d cuts: %d numbers, the budget %d", g, most, laid, budget(g, most))
				}
			}
		}
	}
}

// histories are what may have been ahead of an update: no image, one, two in turn, one that is refused now, areas half written.
func histories() [][]api.Step {
	a, b := sized(0, 7, 60), sized(2, 8, 300)
	return [][]api.Step{
		nil,
		{stage(a)},
		{stage(a), stage(b)},
		{stage(a), stage(b), stage(a)},
		{stage(a), stage(b), revoke(2)},
		{stage(a), stage(b), bumpTo(0, 8)},
		{stage(a), stage(b), bumpTo(0, 9)},
		{stage(a), cut(2, 0x33), stage(b), restore(), mount()},
		{stage(a), cut(10, 0x0f), stage(b), restore(), mount()},
		{bump(0), bump(1), bump(0), bump(0), stage(a)},
		{cut(1), stage(a), restore(), mount(), cut(0, 0xff), stage(b), restore(), mount()},
	}
}

// W6: right behind a Stage at which the power went, restored and mounted, Start hands off what it would have handed off ahead of it, or what was staged: at each act, with each mask, cut a second time too. It goes through the gate.
func TestW6Updates(t *testing.T) {
	r := rand.New(rand.NewSource(16))
	g := several()
	g.Erases = 9
	j := on(g)
	for _, ahead := range histories() {
		for _, b := range [][]byte{sized(0, 9, 48), sized(0, 9, 300), right(1, 0, 5, row(r, 100)...)} {
			acts := j.ends(t, ahead, stage(b)).Acts - j.ends(t, ahead, read(0)).Acts
			for at := range acts {
				for _, mask := range masks(r) {
					again := []api.Step{cut(at, mask...), stage(b), restore(), mount(), start()}
					script := steps(ahead, []api.Step{start()}, again, again)
					l := j.plays(t, script...)[len(ahead):]
					if l[2].E != api.ErrPower {
						t.Fatalf("a cut at the act %d of %d: %v", at, acts, l[2])
					}
					oldOrNew(t, j, b, l[0], l[5])
					oldOrNew(t, j, b, l[5], l[10])
				}
			}
		}
	}
}

// oldOrNew makes sure that a Start is answered as the one ahead of it was, or with what was staged.
func oldOrNew(t *testing.T, j job, b []byte, old, got api.Answer) {
	t.Helper()
	x, _ := form(b)
	got.Acts, old.Acts = 0, 0
	if got != old && got != (api.Answer{V: x.Version, Hash: hashOf(b)}) {
		t.Fatalf("%v, neither %v, nor the version %d", got, old, x.Version)
	}
}

// W6: a Stage that was answered OK is what Start hands off; one that was refused changes nothing.
func TestW6Staged(t *testing.T) {
	j := on(several())
	for _, ahead := range histories() {
		b := sized(0, 12, 200)
		if a := j.ends(t, ahead, stage(b), start()); a.E != api.OK || a.V != 12 || a.Hash != hashOf(b) {
			t.Errorf("%v", a)
		}
		was := j.ends(t, ahead, start())
		for _, wrong := range [][]byte{nil, turned(b, 300), sized(0, 40, 60), sized(0, 12, 481), right(0, 6, 12)} {
			if a := j.ends(t, ahead, stage(wrong), start()); a != was {
				t.Errorf("behind a Stage that is refused: %v, want %v", a, was)
			}
		}
	}
}

// calm is a script without cuts, restores and kinds that are none.
func calm(r *rand.Rand, j job, n int) []api.Step {
	var l []api.Step
	for len(l) < n {
		s := anyStep(r, j.config)
		if r.Intn(15) == 0 {
			s = mount()
		}
		l = append(l, s)
	}
	return l
}

// harmless tells whether a mount may stand ahead of the step number i: not behind a Boot or Start whose Confirm is still to come.
func harmless(script []api.Step, i int) bool {
	for _, s := range script[i:] {
		if is(s, api.StepBoot, api.StepStart, api.StepMount) {
			return true
		}
		if s.Kind == api.StepConfirm {
			break
		}
	}
	for _, s := range slices.Backward(script[:i]) {
		if s.Kind == api.StepMount {
			return true
		}
		if is(s, api.StepBoot, api.StepStart) {
			return !slices.ContainsFunc(script[i:], func(s api.Step) bool { return s.Kind == api.StepConfirm })
		}
	}
	return true
}

// mountsAt holds a script with mounts ahead of some of its steps against its answers without them: a mount is OK, does no act, and changes no answer but those of quotes.
func mountsAt(t *testing.T, j job, script []api.Step, want []api.Answer, at []int) {
	t.Helper()
	var with []api.Step
	var from []int // the number in the script; -1 of a mount that was put in
	for i := range len(script) + 1 {
		if slices.Contains(at, i) {
			with, from = append(with, mount()), append(from, -1)
		}
		if i < len(script) {
			with, from = append(with, script[i]), append(from, i)
		}
	}
	acts := 0
	for k, a := range j.run(t, with) {
		switch {
		case from[k] < 0:
			if a != (api.Answer{Acts: acts}) {
				t.Fatalf("a mount: %v", a)
			}
		case with[k].Kind == api.StepQuote:
			if a.E != api.OK {
				t.Fatalf("a quote: %v", a)
			}
		case a != want[from[k]]:
			t.Fatalf("step %d of\n%s%v, without mounts %v", k, texts(with), a, want[from[k]])
		}
		acts = a.Acts
	}
	if !same(j.after(t, with), j.after(t, script)) {
		t.Fatal("the chips are unlike")
	}
}

// P18.2: StepMounts put between the steps of scripts without cuts and restores, one at each place that may be, and at many of them.
func TestMountsBetween(t *testing.T) {
	r := rand.New(rand.NewSource(17))
	for i := range 60 {
		j := on(configs()[i%len(configs())])
		script := calm(r, j, 30)
		if i < len(bodies()) {
			j, script = on(bodies()[i].config), bodies()[i].steps
		}
		want := j.plays(t, script...)
		var all []int
		for at := range len(script) + 1 {
			if harmless(script, at) {
				all = append(all, at)
				mountsAt(t, j, script, want, []int{at})
			}
		}
		mountsAt(t, j, script, want, all)
		for range 5 {
			mountsAt(t, j, script, want, slices.DeleteFunc(slices.Clone(all), func(int) bool { return r.Intn(2) == 0 }))
		}
	}
}

// P18.2: where it isn't promised: a mount behind a Boot or a Start whose Confirm is still to come makes that ErrState; and quotes tell of what came behind it alone.
func TestMountsThatChange(t *testing.T) {
	j := on(several())
	for _, s := range []api.Step{boot(sized(0, 7, 60)), start()} {
		if a := j.ends(t, ready(), s, confirm()); a.E != api.OK {
			t.Errorf("%s: %v", text(s), a)
		}
		if a := j.ends(t, ready(), s, mount(), confirm()); a.E != api.ErrState {
			t.Errorf("%s: %v", text(s), a)
		}
		if j.ends(t, ready(), s, quote("n")).Hash == j.ends(t, ready(), s, mount(), quote("n")).Hash {
			t.Errorf("%s: the quotes are alike", text(s))
		}
	}
}
