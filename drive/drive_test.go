package drive_test

import (
	"math"
	"math/rand"
	"slices"
	"sync"
	"testing"

	"portcullis/api"
	"portcullis/chip"
	"portcullis/drive"
	"portcullis/rom"
)

// wrongConfigs are such as may not be: each number just beyond its edges, and far beyond; and none at all.
func wrongConfigs() []api.Config {
	l := []api.Config{{}}
	for _, change := range []func(c *api.Config, n int){
		func(c *api.Config, n int) { c.Slots = []int{0, 9, -1, math.MinInt, math.MaxInt}[n] },
		func(c *api.Config, n int) { c.Cells = []int{c.Slots + 2, 257, -1, math.MinInt, math.MaxInt}[n] },
		func(c *api.Config, n int) { c.Fuses = []int{0, 65, -1, math.MinInt, math.MaxInt}[n] },
		func(c *api.Config, n int) { c.Step = []int{0, 65537, -1, math.MinInt, math.MaxInt}[n] },
		func(c *api.Config, n int) { c.Keys = []int{0, 65, -1, math.MinInt, math.MaxInt}[n] },
		func(c *api.Config, n int) { c.Erases = []int{-1, 65537, -2, math.MinInt, math.MaxInt}[n] },
		func(c *api.Config, n int) { c.Area = []int{-1, 65, -2, math.MinInt, math.MaxInt}[n] },
	} {
		for n := range 5 {
			c := several()
			change(&c, n)
			l = append(l, c)
		}
	}
	return l
}

// rightConfigs are such as may be, with numbers at their edges.
func rightConfigs() []api.Config {
	return append(configs(), chapter(),
		api.Config{Cells: 4, Slots: 1, Fuses: 1, Step: 1, Keys: 1},
		api.Config{Cells: 11, Slots: 8, Fuses: 64, Step: 65536, Keys: 64, Erases: 65536},
		api.Config{Cells: 256, Slots: 8, Fuses: 1, Step: 65536, Keys: 64, Area: 1},
		api.Config{Cells: 4, Slots: 1, Fuses: 64, Step: 1, Keys: 1, Erases: 65536, Area: 64})
}

// many are so many secrets, of keys from 0 on.
func many(n int) []api.Secret {
	var l []api.Secret
	for k := range n {
		l = append(l, api.Secret{Key: k, Bytes: secretOf(k)})
	}
	return l
}

// someSecrets are such as a mount refuses, by each of the errors of keys.New, and such as it takes (OK).
func someSecrets() []struct {
	l    []api.Secret
	want api.Errno
} {
	return []struct {
		l    []api.Secret
		want api.Errno
	}{
		{nil, api.OK},
		{[]api.Secret{}, api.OK},
		{many(64), api.OK},
		{[]api.Secret{{Key: 63, Bytes: make([]byte, 256)}}, api.OK},
		{many(65), api.ErrMany},
		{[]api.Secret{{Key: -1, Bytes: ones()}}, api.ErrRange},
		{append(many(3), api.Secret{Key: 64}), api.ErrRange},
		{[]api.Secret{{Key: 0}}, api.ErrBytes},
		{append(many(3), api.Secret{Key: 9, Bytes: make([]byte, 257)}), api.ErrBytes},
		{append(many(3), api.Secret{Key: 0, Bytes: ones()}), api.ErrTwice},
	}
}

// refused makes sure that Run and After answer an error alone.
func refused(t *testing.T, c api.Config, l []api.Secret, own []byte, script []api.Step, want api.Errno) {
	t.Helper()
	if got, e := drive.Run(c, l, own, script); e != want || want != api.OK && len(got) != 0 || want == api.OK && len(got) != len(script) {
		t.Errorf("Run(%+v, %d secrets, own of %d bytes, %d steps): %v, %d answers, want %v", c, len(l), len(own), len(script), e, len(got), want)
	}
	got, e := drive.After(c, l, own, script)
	if e != want || want != api.OK && len(got.Pages)+len(got.Erases)+len(got.Blown) != 0 || want == api.OK && len(got.Pages) != 2+2*c.Area {
		t.Errorf("After(%+v, %d secrets, own of %d bytes, %d steps): %v, %d pages, want %v", c, len(l), len(own), len(script), e, len(got.Pages), want)
	}
}

// P18.1, R2: Run and After with each config, with each error of a mount, with own of each length that matters, with scripts of no step, of 1024 and of one more: the first of these errors is told, by both, with nothing beside it.
func TestRefused(t *testing.T) {
	scripts := [][]api.Step{nil, {}, {read(0)}, make([]api.Step, mostSteps-1), make([]api.Step, mostSteps), make([]api.Step, mostSteps+1), make([]api.Step, 5000)}
	seen := map[api.Errno]bool{}
	for i, c := range append(rightConfigs(), wrongConfigs()...) {
		for _, y := range someSecrets() {
			for _, n := range []int{0, 1, 256, 257, 1000} {
				for _, script := range scripts {
					want := api.OK
					switch {
					case i >= len(rightConfigs()):
						want = api.ErrArg
					case y.want != api.OK:
						want = y.want
					case n < 1 || n > 256:
						want = api.ErrBytes
					case len(script) > 1024:
						want = api.ErrMany
					}
					if want == api.OK && i > 0 && len(script) > 1 {
						continue // long scripts are played of one config alone
					}
					refused(t, c, y.l, make([]byte, n), script, want)
					seen[want] = true
				}
			}
		}
	}
	if len(seen) != 6 {
		t.Errorf("%v", seen)
	}
}

// P18.1: of no step there is no answer, and the chip is blank.
func TestNoStep(t *testing.T) {
	for _, g := range rightConfigs() {
		if l := on(g).plays(t); len(l) != 0 {
			t.Errorf("%v", l)
		}
	}
}

// P18.1: just 1024 steps are played, up to the last one.
func TestMostSteps(t *testing.T) {
	j := on(api.Config{Cells: 256, Slots: 1, Fuses: 64, Step: 100, Keys: 1, Erases: 20})
	script := times(mostSteps, bump(0))
	l := j.run(t, script)
	if a := l[mostSteps-1]; a.E != api.OK || a.V != 1024 || len(l) != 1024 {
		t.Errorf("%d answers, the last one %v", len(l), a)
	}
	refused(t, j.config, j.secrets(), j.own, append(script, bump(0)), api.ErrMany)
	script[mostSteps-1] = revoke(0)
	if s := j.after(t, script); !s.Blown[64] {
		t.Error("After has left the last step out")
	}
}

// one is a step of each kind, over a chip of several() which begins with ready; it is OK there.
func one() []api.Step {
	return []api.Step{
		read(1), bump(0), bumpTo(0, 9), revoke(2), revoked(1), boot(sized(0, 7, 60)), confirm(), stage(sized(0, 8, 90)), start(), mount(), cut(3, 0x0f), restore(), quote("n"),
	}
}

// ready is a chip with two counters, a key revoked, an image staged, and another one handed off.
func ready() []api.Step {
	return []api.Step{bumpTo(0, 6), bumpTo(1, 20), revoke(1), stage(sized(0, 6, 80)), boot(right(1, 2, 22, 5))}
}

func TestOneOfEach(t *testing.T) {
	var got []int
	for _, s := range one() {
		got = append(got, s.Kind)
		if a := on(several()).ends(t, ready(), s); a.E != api.OK {
			t.Errorf("%s: %v", text(s), a.E)
		}
	}
	if !slices.Equal(got, kinds()) {
		t.Errorf("%v", got)
	}
}

// ways are those by which a rom is there, or is not, and the power is, or is not.
func ways() []struct {
	name       string
	steps      []api.Step
	rom, power bool
} {
	none := []api.Step{restore()}
	refused := steps(gone(), []api.Step{mount()})
	return []struct {
		name       string
		steps      []api.Step
		rom, power bool
	}{
		{"at first", nil, true, true},
		{"without power", gone(), true, false},
		{"let go by a restore with the power there", none, false, true},
		{"let go by two of them", steps(none, none), false, true},
		{"let go by a restore", steps(gone(), none), false, true},
		{"let go by a mount that was refused", refused, false, false},
		{"let go by two of them", steps(refused, []api.Step{mount()}), false, false},
		{"let go by a mount that was refused, the power there again", steps(refused, none), false, true},
		{"mounted again", steps(none, []api.Step{mount()}), true, true},
		{"mounted again behind a restore", steps(gone(), none, []api.Step{mount()}), true, true},
		{"mounted again behind one that was refused", steps(refused, none, []api.Step{mount()}), true, true},
		{"mounted again, the power gone anew", steps(none, []api.Step{mount()}, gone()), true, false},
	}
}

// P18.1: a step of each kind, and such as are refused, with a rom and without one, with power and without it. Without a rom all but mounts, cuts and restores are ErrState, whatever else is wrong; without power all that ask the rom but quotes are ErrPower.
func TestRomAndPower(t *testing.T) {
	j := on(several())
	for _, y := range ways() {
		for _, s := range slices.Concat(one(), wrong()) {
			a := j.ends(t, ready(), slices.Concat(y.steps, []api.Step{s})...)
			want := a.E
			switch {
			case is(s, api.StepCut, api.StepRestore):
				want = api.OK
			case s.Kind == api.StepMount:
				want = api.OK
				if !y.power {
					want = api.ErrPower
				}
			case !y.rom:
				want = api.ErrState
			case s.Kind == api.StepQuote:
				want = api.OK
			case !y.power:
				want = api.ErrPower
			case a.E == api.ErrPower, s.Kind != api.StepConfirm && a.E == api.ErrState:
				t.Errorf("%s: %s: %v", y.name, text(s), a.E)
			}
			if a.E != want {
				t.Errorf("%s: %s: %v, want %v", y.name, text(s), a.E, want)
			}
			if a.E != api.OK && a != (api.Answer{E: a.E, Acts: a.Acts}) {
				t.Errorf("%s: %s: %v beside an error", y.name, text(s), a)
			}
		}
	}
}

// wrong are steps that a rom of several() with power refuses behind ready, each with what is wrong.
func wrong() []api.Step {
	var l []api.Step
	for _, y := range wrongSteps() {
		l = append(l, y.step)
	}
	return l
}

func wrongSteps() []struct {
	step api.Step
	want api.Errno
} {
	good := sized(0, 7, 90)
	return []struct {
		step api.Step
		want api.Errno
	}{
		{read(-1), api.ErrRange}, {read(2), api.ErrRange}, {read(math.MaxInt), api.ErrRange}, {read(math.MinInt), api.ErrRange},
		{bump(-1), api.ErrRange}, {bump(2), api.ErrRange}, {bump(math.MaxInt), api.ErrRange}, {bump(math.MinInt), api.ErrRange},
		{bumpTo(-1, 5), api.ErrRange}, {bumpTo(2, 5), api.ErrRange}, {bumpTo(0, -1), api.ErrRange}, {bumpTo(0, math.MinInt64), api.ErrRange},
		{bumpTo(0, 40), api.ErrSaturated}, {bumpTo(0, math.MaxInt64), api.ErrSaturated},
		{revoke(-1), api.ErrRange}, {revoke(3), api.ErrRange}, {revoked(-1), api.ErrRange}, {revoked(3), api.ErrRange}, {revoked(math.MinInt), api.ErrRange},
		{boot(nil), api.ErrShort}, {boot(good[:89]), api.ErrShort}, {boot(turned(good, 0)), api.ErrForm}, {boot(append(slices.Clone(good), 0)), api.ErrRest},
		{boot(make([]byte, mostBytes+1)), api.ErrBytes}, {boot(right(2, 0, 7)), api.ErrForm}, {boot(right(0, 5, 7)), api.ErrKey}, {boot(right(0, 1, 7)), api.ErrRevoked},
		{boot(turned(good, 8*20)), api.ErrTag}, {boot(sized(0, 5, 90)), api.ErrVersion}, {boot(sized(0, 40, 90)), api.ErrVersion},
		{stage(nil), api.ErrShort}, {stage(good[:89]), api.ErrShort}, {stage(turned(good, 0)), api.ErrForm}, {stage(append(slices.Clone(good), 0)), api.ErrRest},
		{stage(make([]byte, mostBytes+1)), api.ErrBytes}, {stage(right(2, 0, 7)), api.ErrForm}, {stage(right(0, 5, 7)), api.ErrKey}, {stage(right(0, 1, 7)), api.ErrRevoked},
		{stage(turned(good, 8*20)), api.ErrTag}, {stage(sized(0, 5, 90)), api.ErrVersion}, {stage(sized(0, 7, 481)), api.ErrBytes},
	}
}

// P18.1, R2: each error of each kind, with nothing beside it but the acts, which are as they were.
func TestErrorsOfSteps(t *testing.T) {
	j := on(several())
	acts := j.ends(t, ready()).Acts
	for _, y := range wrongSteps() {
		if a := j.ends(t, ready(), y.step); a != (api.Answer{E: y.want, Acts: acts}) {
			t.Errorf("%s: %v, want %v", text(y.step), a, y.want)
		}
	}
	if a := j.ends(t, nil, confirm()); a != (api.Answer{E: api.ErrState}) {
		t.Errorf("Confirm of nothing: %v", a)
	}
	if a := j.ends(t, ready(), boot(nil), confirm()); a != (api.Answer{E: api.ErrState, Acts: acts}) {
		t.Errorf("Confirm behind a Boot that was refused: %v", a)
	}
	if a := j.ends(t, nil, start()); a != (api.Answer{E: api.ErrNone}) {
		t.Errorf("Start of none: %v", a)
	}
	if a := j.ends(t, ready(), revoke(0), start()); a != (api.Answer{E: api.ErrNone, Acts: acts + 1}) {
		t.Errorf("Start of what was revoked: %v", a)
	}
	j.config.Erases = 0
	full := []api.Step{bump(0), bump(1), stage(sized(0, 3, 90)), bump(0), stage(sized(0, 4, 90)), boot(right(0, 0, 30)), bump(0), bump(0), bump(0)}
	acts = j.ends(t, full).Acts
	for _, s := range []api.Step{bump(0), bump(1), bumpTo(1, 39), confirm(), stage(sized(0, 9, 60))} {
		if a := j.ends(t, full, s); a != (api.Answer{E: api.ErrWorn, Acts: acts}) {
			t.Errorf("%s: %v, want ErrWorn", text(s), a)
		}
	}
}

// P18.1: kinds that are none: the one below the first, the one above the last, negative ones, the greatest and the least: ErrKind, whether there is a rom or not, and power or not; nothing is done.
func TestNoKinds(t *testing.T) {
	j := on(several())
	for _, y := range ways() {
		ahead := steps(ready(), y.steps)
		acts := j.ends(t, ahead).Acts
		was := j.after(t, ahead)
		for _, kind := range []int{0, 14, 15, -1, -2, -13, 99, 256, 256 + api.StepRead, 1<<32 + api.StepBump, math.MaxInt32, math.MinInt32, math.MaxInt, math.MinInt} {
			s := api.Step{Kind: kind, N: 1, V: 30, Bytes: sized(0, 7, 60)}
			if a := j.ends(t, ahead, s); a != (api.Answer{E: api.ErrKind, Acts: acts}) {
				t.Errorf("%s: the kind %d: %v", y.name, kind, a)
			}
			if got := j.after(t, steps(ahead, []api.Step{s})); !same(got, was) {
				t.Errorf("%s: the kind %d does something", y.name, kind)
			}
			if a, b := j.ends(t, ahead, s, read(1)), j.ends(t, ahead, read(1)); a != b {
				t.Errorf("%s: behind the kind %d: %v, want %v", y.name, kind, a, b)
			}
		}
	}
}

// filledUp is a step whose fields that its kind doesn't name are filled with whatever.
func filledUp(r *rand.Rand, s api.Step) api.Step {
	number := func() int64 {
		return []int64{math.MinInt64, -1, 0, 1, 2, 7, 1 << 40, math.MaxInt64}[r.Intn(8)]
	}
	if !is(s, api.StepRead, api.StepBump, api.StepBumpTo, api.StepRevoke, api.StepRevoked, api.StepCut) {
		s.N = int(number())
	}
	if s.Kind != api.StepBumpTo {
		s.V = number()
	}
	if !is(s, api.StepBoot, api.StepStage, api.StepCut, api.StepQuote) {
		s.Bytes = [][]byte{nil, {}, ones(), row(r, 40), sized(0, 9, 70)}[r.Intn(5)]
	}
	return s
}

// P18.1: fields that are not named are not looked at; fields of the answer that are not named are zero.
func TestFields(t *testing.T) {
	r := rand.New(rand.NewSource(1))
	for i := range 150 {
		j := on(configs()[i%len(configs())])
		script := anyScript(r, j, 30)
		if i == 0 {
			script = steps(ready(), one())
		}
		other := slices.Clone(script)
		for k := range other {
			other[k] = filledUp(r, other[k])
		}
		want, got := j.plays(t, script...), j.run(t, other)
		for k, a := range got {
			if a != want[k] {
				t.Fatalf("%s: %v, and with other fields, %s: %v", text(script[k]), want[k], text(other[k]), a)
			}
			s := script[k]
			if a.V != 0 && !is(s, api.StepRead, api.StepBump, api.StepBoot, api.StepStart) || a.Is && s.Kind != api.StepRevoked || a.Hash != (api.Hash{}) && !is(s, api.StepStart, api.StepQuote) {
				t.Fatalf("%s: %v", text(s), a)
			}
			if a.E != api.OK && a != (api.Answer{E: a.E, Acts: a.Acts}) {
				t.Fatalf("%s: %v beside an error", text(s), a)
			}
		}
		if !same(j.after(t, script), j.after(t, other)) {
			t.Fatal("the chips are unlike")
		}
	}
}

// P18.1: Acts stands in every answer, those of cuts, restores, quotes, mounts and kinds that are none, and refused ones among them; the act at which the power goes counts.
func TestActs(t *testing.T) {
	script := []api.Step{read(0), bump(0), read(0), quote("n"), cut(9), restore(), read(0), mount(), bump(0), bump(5), revoke(0), revoke(0), revoked(0), boot(nil), start(), confirm(), stage(nil),
		cut(0), bump(0), read(0), quote("n"), cut(-1), mount(), quote("n"), restore(), {}, mount(), start()}
	want := []int{0, 2, 2, 2, 2, 2, 2, 2, 3, 3, 4, 4, 4, 4, 4, 4, 4,
		4, 5, 5, 5, 5, 5, 5, 5, 5, 5, 5}
	for i, a := range on(chapter()).plays(t, script...) {
		if a.Acts != want[i] {
			t.Errorf("step %d, %s: %d acts, want %d", i, text(script[i]), a.Acts, want[i])
		}
	}
}

// P18.1: a cut comes at the act that it names, from then on, with its mask: none below 0, the next one at 0; masks of no bytes, of one, of 32 and of more.
func TestCuts(t *testing.T) {
	r := rand.New(rand.NewSource(2))
	j := on(chapter())
	for _, n := range []int{math.MinInt, -2, -1, 0, 1, 2, 3, 4, 5, 6, 7, 100, math.MaxInt} {
		for _, mask := range append(masks(r), []byte{1}, []byte{0xfe}, row(r, 31), row(r, 33), row(r, 256), row(r, 257), row(r, 5000)) {
			script := []api.Step{cut(n, mask...), bump(0), bump(0), bump(0), revoke(0), read(0)}
			l := j.plays(t, steps(script, []api.Step{restore(), mount(), read(0), revoked(0)})...)
			out := 0 <= n && n < 6
			if (l[5].E == api.ErrPower) != out || l[5].E != api.OK && !out {
				t.Errorf("a cut at the act %d: %v", n, l)
			}
			acts := 6
			if out {
				acts = n + 1
			}
			if l[5].Acts != acts {
				t.Errorf("a cut at the act %d: %d acts", n, l[5].Acts)
			}
		}
	}
}

// P18.1, P4.2: what a cut leaves, bit by bit: of a cell's 32 bytes, of a page's, of a fuse.
func TestMasks(t *testing.T) {
	j := on(chapter())
	mask := make([]byte, 40)
	for i := range mask {
		mask[i] = byte(37 * i)
	}
	for _, m := range [][]byte{nil, {0}, {1}, {0xff}, {0xaa}, mask[:31], mask[:32], mask} {
		s := j.after(t, []api.Step{cut(0, m...), bump(0)})
		var want api.Cell
		for i := range want {
			lets := byte(0)
			if len(m) > 0 {
				lets = m[i%len(m)]
			}
			want[i] = 0xff &^ (lets &^ value(0, 1)[i])
		}
		if s.Pages[0][1] != want || s.Pages[0][0] != filled(0xff) {
			t.Errorf("the mask %x: %x, want %x", m, s.Pages[0][1], want)
		}
		s = j.after(t, []api.Step{cut(0, m...), revoke(0)})
		if is := len(m) > 0 && m[0]&1 == 1; s.Blown[2] != is {
			t.Errorf("the mask %x: blown %v", m, s.Blown[2])
		}
	}
	j.config.Erases = 1
	torn := []api.Step{cut(1), bump(0), restore(), mount()} // the page 0 has a record, and no head: it is erased ahead of the next one
	for _, m := range [][]byte{nil, {0xff}, {0x0f}, make([]byte, 33), slices.Repeat([]byte{0xff}, 32), append(make([]byte, 32), slices.Repeat([]byte{0xff}, 32)...)} {
		s := j.after(t, steps(torn, []api.Step{cut(0, m...), bump(0)}))
		want := value(0, 1)
		for i := range want {
			if len(m) > 0 {
				want[i] |= m[(32+i)%len(m)]
			}
		}
		if s.Pages[0][1] != want || s.Erases[0] != 1 {
			t.Errorf("an erase, the mask %x: %x, want %x; %d erases", m, s.Pages[0][1], want, s.Erases[0])
		}
	}
}

// P18.1: a second cut ahead of the first one's act takes its place, one below 0 takes it away; a cut waits through mounts, restores and refused steps until its act comes; one told while the power is gone waits for an act behind the restore; behind one that came none waits.
func TestCutsOneBehindTheOther(t *testing.T) {
	j := on(chapter())
	ok, power := api.OK, api.ErrPower
	j.is(t, []api.Step{cut(0), cut(2), bump(0), bump(0)}, ok, ok, ok, power)
	j.is(t, []api.Step{cut(2), cut(0), bump(0)}, ok, ok, power)
	j.is(t, []api.Step{cut(2), bump(0), cut(1), bump(0), revoke(0)}, ok, ok, ok, ok, power)
	j.is(t, []api.Step{cut(0), cut(-1), bump(0), bump(0)}, ok, ok, ok, ok)
	j.is(t, []api.Step{cut(0), cut(math.MinInt, 0xff), bump(0)}, ok, ok, ok)
	j.is(t, []api.Step{cut(0), read(0), bump(4), boot(nil), quote("n"), mount(), restore(), mount(), start(), bump(0)}, ok, ok, api.ErrRange, api.ErrShort, ok, ok, ok, ok, api.ErrNone, power)
	j.is(t, []api.Step{cut(0), revoke(0), cut(1), restore(), mount(), revoke(0), bump(0)}, ok, power, ok, ok, ok, ok, power)
	j.is(t, []api.Step{cut(0), revoke(0), restore(), mount(), revoke(0), bump(0)}, ok, power, ok, ok, ok, ok)
	j.is(t, []api.Step{cut(0), revoke(0), cut(0), cut(-1), restore(), mount(), bump(0)}, ok, power, ok, ok, ok, ok, ok)
	j.is(t, []api.Step{cut(5), bump(0), bump(0), read(0)}, ok, ok, ok, ok) // it never comes
	first := j.after(t, []api.Step{cut(0, 0xff), cut(0, 0x00), revoke(0)})
	second := j.after(t, []api.Step{cut(0, 0x00), cut(0, 0xff), revoke(0)})
	if first.Blown[2] || !second.Blown[2] {
		t.Error("the mask is not the last one's")
	}
}

// P18.1: a StepRestore lets the rom go, also with the power there; it does no act and leaves all else as it was.
func TestRestore(t *testing.T) {
	j := on(several())
	for _, n := range []int{1, 2, 3} {
		restores := times(n, restore())
		for _, s := range one() {
			if is(s, api.StepMount, api.StepCut, api.StepRestore) {
				continue
			}
			if a := j.ends(t, ready(), slices.Concat(restores, []api.Step{s})...); a.E != api.ErrState {
				t.Errorf("%s behind a restore: %v", text(s), a.E)
			}
		}
		if !same(j.after(t, steps(ready(), restores)), j.after(t, ready())) {
			t.Error("the chip is another one")
		}
		values(t, j.plays(t, slices.Concat(ready(), restores, []api.Step{mount(), read(0), read(1)})...)[5+n+1:], 6, 20)
	}
}

// P18.1, P18.2: a StepMount behind each other kind of step, and twice in a row, where the power is: OK, and no act; what was handed off is no more.
func TestMount(t *testing.T) {
	j := on(several())
	for _, s := range one() {
		for _, n := range []int{1, 2, 3} {
			with := steps(ready(), []api.Step{s})
			l := j.plays(t, steps(with, times(n, mount()), []api.Step{read(1), confirm()})...)
			acts, l := l[len(with)-1].Acts, l[len(with):]
			for _, a := range l[:n] {
				if a != (api.Answer{Acts: acts}) {
					t.Errorf("behind %s: %v", text(s), a)
				}
			}
			want := int64(20)
			if s.Kind == api.StepConfirm {
				want = 22
			}
			if l[n] != (api.Answer{V: want, Acts: acts}) || l[n+1] != (api.Answer{E: api.ErrState, Acts: acts}) {
				t.Errorf("Read and Confirm behind %s and a mount: %v", text(s), l[n:])
			}
			if !same(j.after(t, with), j.after(t, steps(with, times(n, mount())))) {
				t.Errorf("a mount behind %s does something", text(s))
			}
		}
	}
}

// P18.1: a StepMount where the power is gone, behind each other kind of step, and twice in a row: ErrPower, and no rom, until the power is there and it is mounted again.
func TestMountWithoutPower(t *testing.T) {
	j := on(several())
	for _, s := range one() {
		if s.Kind == api.StepRestore {
			continue
		}
		for _, n := range []int{1, 2, 3} {
			out := steps(ready(), gone(), []api.Step{s})
			l := j.plays(t, steps(out, times(n, mount()), []api.Step{read(1), quote("n"), restore(), read(1), mount(), read(1)})...)
			acts, l := l[len(out)-1].Acts, l[len(out):]
			for _, a := range l[:n] {
				if a != (api.Answer{E: api.ErrPower, Acts: acts}) {
					t.Errorf("behind %s: %v", text(s), a)
				}
			}
			var got []api.Errno
			for _, a := range l[n:] {
				got = append(got, a.E)
			}
			if !slices.Equal(got, []api.Errno{api.ErrState, api.ErrState, api.OK, api.ErrState, api.OK, api.OK}) {
				t.Errorf("behind %s and a mount: %v", text(s), got)
			}
		}
	}
}

// P18.1: what was handed off, and the log of events, begin anew behind a mount; but not behind one that is still to come, and not what the chip holds.
func TestAnew(t *testing.T) {
	j := on(several())
	none := quoteOf(j.own, []byte("n"), nil)
	for _, y := range ways() {
		if !y.rom || !y.power {
			continue
		}
		l := j.plays(t, steps(ready(), []api.Step{start()}, y.steps, []api.Step{quote("n"), confirm(), read(0)})...)
		l = l[len(l)-3:]
		anew := y.steps != nil
		if (l[0].Hash == none) != anew || (l[1].E == api.ErrState) != anew || l[2].V != 6 {
			t.Errorf("%s: %v", y.name, l)
		}
	}
	l := j.plays(t, boot(imageB()), quote("n"), mount(), quote("n"), boot(imageB()), quote("n"), boot(imageA()), confirm(), read(0), mount(), boot(imageA()), confirm())
	one := quoteOf(j.own, []byte("n"), []api.Event{{Digest: hashOf(imageB())}})
	if l[1].Hash != one || l[3].Hash != none || l[5].Hash != one || l[8].V != 1 || l[11].E != api.OK {
		t.Errorf("%v", l)
	}
}

// P18.1: StepBoot tells the version alone, 0 too; a Boot that is refused tells nothing.
func TestBoot(t *testing.T) {
	j := on(several())
	acts := j.ends(t, ready()).Acts
	for _, y := range []struct {
		b []byte
		v int64
	}{{sized(0, 6, 60), 6}, {sized(0, 39, 480), 39}, {sized(0, 7, 481), 7}, {sized(2, 7, 2000), 7}, {right(1, 0, 20), 20}, {sized(0, 7, mostBytes), 7}} {
		if a := j.ends(t, ready(), boot(y.b)); a != (api.Answer{V: y.v, Acts: acts}) {
			t.Errorf("Boot of the version %d: %v", y.v, a)
		}
	}
	if a := j.ends(t, nil, boot(right(0, 0, 0))); a != (api.Answer{}) {
		t.Errorf("Boot of the version 0: %v", a)
	}
}

// P18.1: StepStart tells the version, and the digest of the event that it has added: of the image of either area, not of what was staged but isn't started, and not of what was booted last.
func TestStart(t *testing.T) {
	j := on(several())
	a, b, c := sized(0, 7, 60), sized(2, 8, 200), right(1, 0, 30, 1, 2, 3)
	started := func(b []byte, l ...api.Step) {
		t.Helper()
		got := j.ends(t, ready(), append(l, start())...)
		x, _ := form(b)
		want := api.Answer{V: x.Version, Hash: hashOf(b), Acts: got.Acts}
		if b == nil {
			want = api.Answer{E: api.ErrNone, Acts: got.Acts}
		}
		if got != want {
			t.Errorf("%v, want the version %d, %x", got, x.Version, want.Hash)
		}
		twice := j.ends(t, ready(), append(l, start(), start())...)
		if twice != got {
			t.Errorf("a second time: %v, want %v", twice, got)
		}
	}
	started(sized(0, 6, 80))
	started(a, stage(a))
	started(b, stage(a), stage(b))
	started(c, stage(a), stage(b), stage(c))
	started(a, stage(a), boot(b))
	started(a, stage(a), boot(nil))
	started(a, stage(a), mount())
	started(a, stage(a), stage(b), revoke(2))
	started(c, stage(c), stage(b), bumpTo(0, 9))
	started(a, stage(a), cut(0), stage(b), restore(), mount())
	started(b, stage(a), cut(11, 0xff), stage(b), restore(), mount()) // the head of the log's new page is the last of 12 acts
	started(a, stage(a), cut(10, 0xff), stage(b), restore(), mount())
	started(a, stage(a), stage(turned(b, 200)))
	started(nil, stage(a), bumpTo(0, 9))
	started(nil, revoke(0))
	if got := j.ends(t, nil, start()); got != (api.Answer{E: api.ErrNone}) {
		t.Errorf("of none: %v", got)
	}
	if got := on(bare()).ends(t, nil, start()); got != (api.Answer{E: api.ErrNone}) {
		t.Errorf("without areas: %v", got)
	}
	if got := j.ends(t, nil, stage(right(0, 0, 0)), start()); got.E != api.OK || got.V != 0 || got.Hash != hashOf(right(0, 0, 0)) {
		t.Errorf("of the version 0: %v", got)
	}
}

// P18.1: StepQuote, with power and without it, of no events and of some, with nonces of no bytes and of many: the quote alone.
func TestQuote(t *testing.T) {
	r := rand.New(rand.NewSource(3))
	a, staged := sized(0, 7, 60), sized(0, 6, 80)
	handed := api.Event{Digest: hashOf(right(1, 2, 22, 5))} // by ready
	for _, own := range [][]byte{{7}, row(r, 64), row(r, 65), row(r, 256)} {
		j := on(several())
		j.own = own
		for i, y := range []struct {
			more []api.Step
			want []api.Event
		}{
			{[]api.Step{mount()}, nil},
			{nil, []api.Event{handed}},
			{[]api.Step{start()}, []api.Event{handed, {Digest: hashOf(staged)}}},
			{[]api.Step{boot(nil), boot(a)}, []api.Event{handed, {Digest: hashOf(nil), E: api.ErrShort}, {Digest: hashOf(a)}}},
			{[]api.Step{mount(), revoke(0), start(), boot(a)}, []api.Event{{E: api.ErrNone}, {Digest: hashOf(a), E: api.ErrRevoked}}},
			{[]api.Step{mount(), boot(turned(a, 300)), quote("m"), read(0), bump(0), confirm(), stage(a)}, []api.Event{{Digest: hashOf(turned(a, 300)), E: api.ErrTag}}},
			{steps(gone(), []api.Step{boot(a), start()}), []api.Event{handed}},
			{steps([]api.Step{mount()}, gone()), nil},
		} {
			for _, nonce := range []string{"", "n", "\x00", string(row(r, 300))} {
				got := j.ends(t, ready(), append(y.more, quote(nonce))...)
				if want := (api.Answer{Hash: quoteOf(own, []byte(nonce), y.want), Acts: got.Acts}); got != want {
					t.Errorf("%d: %v, want %v", i, got, want)
				}
			}
		}
	}
}

// P18.1: Boots and Starts behind as many events as a script has room for: 1024 steps make 1024 events at most, so none is refused; a mount in between, and all begins anew.
func TestManyEvents(t *testing.T) {
	j := on(several())
	b := sized(0, 7, 60)
	for _, last := range []api.Step{boot(b), boot(nil), start(), confirm(), quote("n")} {
		script := append([]api.Step{boot(b)}, times(mostSteps-2, boot(b))...)
		for i := 3; i < len(script)-1; i += 5 {
			script[i] = []api.Step{start(), boot(nil), boot(turned(b, i%480))}[i%3]
		}
		l := j.plays(t, append(script, last)...)
		for i, a := range l {
			if a.E == api.ErrMany {
				t.Fatalf("step %d of 1024: %v", i, a)
			}
		}
		a := l[mostSteps-1]
		if last.Kind == api.StepBoot && len(last.Bytes) > 0 && a != (api.Answer{V: 7}) || last.Kind == api.StepConfirm && a != (api.Answer{Acts: 2}) {
			t.Errorf("%s behind 1023 events: %v", text(last), a)
		}
	}
	script := times(mostSteps, boot(b))
	refused(t, j.config, j.secrets(), j.own, append(script, boot(b)), api.ErrMany)
	script = times(mostSteps-1, start())
	script[0], script[600] = stage(b), mount()
	if a := j.ends(t, script, start()); a.E != api.OK || a.V != 7 || a.Hash != hashOf(b) {
		t.Errorf("the last of 1022 Starts: %v", a)
	}
}

// P18.1: a rom of one's own on a chip of one's own, told the same, answers the same, and leaves the same.
func TestBesideARom(t *testing.T) {
	r := rand.New(rand.NewSource(4))
	for i := range 120 {
		j := on(configs()[i%len(configs())])
		script := anyScript(r, j, 40)
		c, e := chip.New(j.config)
		if e != api.OK {
			t.Fatal(e)
		}
		m, e := rom.Mount(c, j.secrets(), j.own)
		if e != api.OK {
			t.Fatal(e)
		}
		for k, a := range j.run(t, script) {
			var want api.Answer
			want, m = told(j, c, m, script[k])
			want.Acts = c.Acts()
			if a != want {
				t.Fatalf("step %d of\n%s%v, want %v", k, texts(script), a, want)
			}
		}
		if !same(j.after(t, script), c.State()) {
			t.Fatal("the chips are unlike")
		}
	}
}

// told tells a rom a step, if there is one, and tells the rom behind it.
func told(j job, c *chip.Chip, m *rom.Rom, s api.Step) (a api.Answer, _ *rom.Rom) {
	switch s.Kind {
	case api.StepMount:
		m, a.E = rom.Mount(c, j.secrets(), j.own)
		return a, m
	case api.StepCut:
		c.Cut(s.N, s.Bytes)
		return a, m
	case api.StepRestore:
		c.Restore()
		return a, nil
	}
	if s.Kind < api.StepRead || s.Kind > api.StepQuote {
		return api.Answer{E: api.ErrKind}, m
	}
	if m == nil {
		return api.Answer{E: api.ErrState}, m
	}
	var x api.Image
	switch s.Kind {
	case api.StepRead:
		a.V, a.E = m.Read(s.N)
	case api.StepBump:
		a.V, a.E = m.Bump(s.N)
	case api.StepBumpTo:
		a.E = m.BumpTo(s.N, s.V)
	case api.StepRevoke:
		a.E = m.Revoke(s.N)
	case api.StepRevoked:
		a.Is, a.E = m.Revoked(s.N)
	case api.StepBoot:
		x, a.E = m.Boot(s.Bytes)
		a.V = x.Version
	case api.StepConfirm:
		a.E = m.Confirm()
	case api.StepStage:
		a.E = m.Stage(s.Bytes)
	case api.StepStart:
		x, _, a.E = m.Start()
		if l := m.Events(); a.E == api.OK {
			a.V, a.Hash = x.Version, l[len(l)-1].Digest
		}
	case api.StepQuote:
		a.Hash = m.Quote(s.Bytes)
	}
	return a, m
}

// P18.1, R4: the same script has the same answers, and leaves the same, a second time, with others in between, and several at one time over the same arguments.
func TestSameAnswers(t *testing.T) {
	r := rand.New(rand.NewSource(5))
	for i := range 24 {
		j := on(configs()[i%len(configs())])
		script, other := anyScript(r, j, 60), anyScript(r, j, 20)
		want, left := j.plays(t, script...), j.after(t, script)
		on(several()).run(t, ready())
		j.run(t, other)
		if !slices.Equal(j.run(t, script), want) || !same(j.after(t, script), left) {
			t.Fatal("the second time it is another answer")
		}
		l := j.secrets()
		var alike [6]bool
		var all sync.WaitGroup
		for k := range alike {
			all.Go(func() {
				if k == 5 {
					drive.Run(j.config, l, j.own, other)
				}
				got, e := drive.Run(j.config, l, j.own, script)
				s, f := drive.After(j.config, l, j.own, script)
				alike[k] = e == api.OK && f == api.OK && slices.Equal(got, want) && same(s, left)
			})
		}
		all.Wait()
		if alike != [6]bool{true, true, true, true, true, true} {
			t.Fatalf("at one time: %v", alike)
		}
	}
}

// room are bytes with spare room behind them.
func room(b []byte) []byte {
	all := slices.Concat(b, slices.Repeat([]byte{0xa5}, 50))
	return all[:len(b)]
}

// rooms are a script, secrets and an own key, all with spare room, that of their lists too.
func rooms(j job, script []api.Step) ([]api.Secret, []byte, []api.Step) {
	l := make([]api.Secret, 0, len(j.known)+3)
	for _, s := range j.secrets() {
		l = append(l, api.Secret{Key: s.Key, Bytes: room(s.Bytes)})
	}
	own := room(j.own)
	in := make([]api.Step, 0, len(script)+3)
	for _, s := range script {
		s.Bytes = room(s.Bytes)
		in = append(in, s)
	}
	for i := range 3 {
		l[:cap(l)][len(l)+i] = api.Secret{Key: 40 + i, Bytes: room([]byte("spare"))}
		in[:cap(in)][len(in)+i] = api.Step{Kind: api.StepRevoke, N: i, V: 5, Bytes: room([]byte("spare"))}
	}
	return l, own, in
}

func sameBytes(a, b []byte) bool { return slices.Equal(a[:cap(a)], b[:cap(b)]) }

// R3: secrets, own, scripts and the bytes in them stay as they were, also in the room behind their length, whatever is answered.
func TestUnchanged(t *testing.T) {
	r := rand.New(rand.NewSource(6))
	for i := range 60 {
		j := on(configs()[i%len(configs())])
		script := anyScript(r, j, 40)
		switch i % 10 {
		case 7:
			j.own = nil
		case 8:
			j.known = []int{1, 1}
		case 9:
			script = make([]api.Step, mostSteps+1)
		}
		l, own, in := rooms(j, script)
		wasL, wasOwn, was := rooms(j, script)
		got, e := drive.Run(j.config, l, own, in)
		_, f := drive.After(j.config, l, own, in)
		if e != f || (e == api.OK) != (i%10 < 7) {
			t.Fatalf("%v, %v", e, f)
		}
		if !sameBytes(own, wasOwn) {
			t.Fatal("own has changed")
		}
		for k, s := range l[:cap(l)] {
			if w := wasL[:cap(wasL)][k]; s.Key != w.Key || !sameBytes(s.Bytes, w.Bytes) {
				t.Fatalf("the secret %d has changed", k)
			}
		}
		for k, s := range in[:cap(in)] {
			if w := was[:cap(was)][k]; s.Kind != w.Kind || s.N != w.N || s.V != w.V || !sameBytes(s.Bytes, w.Bytes) {
				t.Fatalf("the step %d has changed", k)
			}
		}
		if e == api.OK && !slices.Equal(got, j.run(t, script)) {
			t.Fatal("the spare room is looked at")
		}
	}
}

// R3: an answer shares no memory with another one, nor its lists with each other: written over, also in the room behind their length, all others are as they were.
func TestAnswersApart(t *testing.T) {
	j := on(several())
	script := steps(ready(), one())
	one, two := j.run(t, script), j.run(t, script)
	spare := one[:cap(one)]
	for i := range spare {
		spare[i] = api.Answer{E: 99, V: 98}
	}
	_ = append(one, api.Answer{E: 97})
	if want, _ := j.by(script); !slices.Equal(two, want) || !slices.Equal(j.run(t, script), want) {
		t.Error("answers are not apart")
	}
	want := j.after(t, script)
	for p := range want.Pages {
		a, b := j.after(t, script), j.after(t, script)
		cells := a.Pages[p][:cap(a.Pages[p])]
		for i := range cells {
			cells[i] = filled(0x33)
		}
		a.Pages[p] = b.Pages[p]
		if !same(a, want) || !same(b, want) || !same(j.after(t, script), want) {
			t.Fatalf("the page %d is not apart", p)
		}
	}
	a, b := j.after(t, script), j.after(t, script)
	for i := range a.Erases[:cap(a.Erases)] {
		a.Erases[:cap(a.Erases)][i] = 77
	}
	for i := range a.Blown[:cap(a.Blown)] {
		a.Blown[:cap(a.Blown)][i] = true
	}
	pages := a.Pages[:cap(a.Pages)]
	clear(pages)
	if !same(b, want) || !same(j.after(t, script), want) {
		t.Error("chips are not apart")
	}
}

// R1: whatever a script holds, it is played to its end: any kinds, any numbers, any bytes.
func TestAnything(t *testing.T) {
	r := rand.New(rand.NewSource(7))
	number := func(far int) int {
		return []int{math.MinInt, -far, -1, 0, 0, 1, 1, 2, 3, far, math.MaxInt}[r.Intn(11)]
	}
	for i := range 200 {
		j := on(rightConfigs()[i%len(rightConfigs())])
		var script []api.Step
		for range 60 {
			s := api.Step{Kind: r.Intn(18) - 2, N: number(9), V: int64(number(40)), Bytes: anyImage(r, j.config)}
			switch {
			case r.Intn(20) == 0:
				s.Kind = number(1 << 40)
			case r.Intn(4) == 0:
				s.Kind = api.StepMount
			case s.Kind == api.StepCut && r.Intn(3) == 0:
				s.N = -1
			}
			script = append(script, s)
		}
		j.plays(t, script...)
	}
}

// R1: a chip of the greatest config, with the longest image, and the greatest version.
func TestGreatest(t *testing.T) {
	j := job{api.Config{Cells: 256, Slots: 8, Fuses: 64, Step: 65536, Keys: 64, Erases: 65536, Area: 64}, nil, make([]byte, 256)}
	for k := range 64 {
		j.known = append(j.known, k)
	}
	last := int64(65536*64 + 65535)
	b := right(7, 63, last, make([]byte, mostBytes-48)...)
	l := j.run(t, []api.Step{stage(b), start(), confirm(), read(7), bump(7), revoke(63), start(), boot(b), cut(0, 0xff), stage(right(0, 0, 0)), restore(), mount(), start()})
	want := []api.Answer{{Acts: 16386}, {V: last, Hash: hashOf(b), Acts: 16386}, {Acts: 16451}, {V: last, Acts: 16451}, {E: api.ErrSaturated, Acts: 16451}, {Acts: 16452},
		{E: api.ErrNone, Acts: 16452}, {E: api.ErrRevoked, Acts: 16452}, {Acts: 16452}, {E: api.ErrPower, Acts: 16453}, {Acts: 16453}, {Acts: 16453}, {E: api.ErrNone, Acts: 16453}}
	if !slices.Equal(l, want) {
		t.Errorf("%v", l)
	}
}

// The errors that come here, the kinds and the limits have the numbers that the document gives.
func TestNumbers(t *testing.T) {
	got := [19]api.Errno{api.ErrArg, api.ErrRange, api.ErrMany, api.ErrBytes, api.ErrForm, api.ErrShort, api.ErrRest, api.ErrPower, api.ErrWorn, api.ErrSaturated, api.ErrState, api.ErrKind, api.ErrKey, api.ErrRevoked, api.ErrTag, api.ErrVersion, api.ErrNone, api.ErrTwice, api.ErrChain}
	for i, e := range got {
		if int(e) != i+1 {
			t.Errorf("the error %d is %d", i+1, e)
		}
	}
	all := []int{api.StepRead, api.StepBump, api.StepBumpTo, api.StepRevoke, api.StepRevoked, api.StepBoot, api.StepConfirm, api.StepStage, api.StepStart, api.StepMount, api.StepCut, api.StepRestore, api.StepQuote}
	if !slices.Equal(all, kinds()) || api.StepNone != 0 || api.OK != 0 {
		t.Errorf("kinds: %d", all)
	}
	if got := [4]int{api.MaxScript, api.MaxEvents, api.MaxSecret, api.MaxImage}; got != [4]int{mostSteps, mostEvents, 256, mostBytes} {
		t.Errorf("limits: %d", got)
	}
}
