package model_test

import (
	"slices"

	"portcullis/api"
	"portcullis/area"
	"portcullis/chip"
	"portcullis/keys"
	"portcullis/loader"
	"portcullis/rom"
	"portcullis/store"
)

// What follows tells what Explains must answer by roms on chips: each way that the power may have gone is brought about on a chip of its own, and the script is played there up to the first answer that is another one.

// The ways of a step at which the power goes.
const (
	none = iota
	whole
	emptied // the target of a Stage
	laid    // the target of a Stage, the order being what it was
)

// beside is a rom on a chip which is never worn.
type beside struct {
	job
	chip *chip.Chip
	rom  *rom.Rom // nil, if there is none
}

// begun is what is there ahead of the first step.
func begun(j job) *beside {
	c, _ := chip.New(j.config)
	b := &beside{job: j, chip: c}
	b.answer(mount())
	return b
}

// wears tells whether a step may be refused for wear: a fuse never is.
func wears(s api.Step) bool {
	return is(s, api.StepBump, api.StepBumpTo, api.StepConfirm, api.StepStage)
}

// byRoms tells whether lines are explained, and by which step they are not.
func (j job) byRoms(l []line) (bool, int) {
	best := 0
	for todo := [][]int{nil}; len(todo) > 0; {
		ways := todo[len(todo)-1]
		todo = todo[:len(todo)-1]
		at, open := j.follow(l, ways)
		if at == len(l) {
			return true, 0
		}
		best = max(best, at)
		for way := none; open && len(ways) < mostCuts && way <= laid; way++ {
			todo = append(todo, append(slices.Clone(ways), way))
		}
	}
	return false, best
}

// follow plays lines, the power going in these ways, up to the first one that is answered otherwise, or at which the power goes once more: that is open.
func (j job) follow(l []line, ways []int) (at int, open bool) {
	b := begun(j)
	for i, x := range l {
		want := fine()
		switch {
		case x.answer.E == api.ErrPower && b.asks(x.step):
			if len(ways) == 0 {
				return i, true
			}
			if !b.goes(x.step, ways[0]) {
				return i, false
			}
			want, ways = power(), ways[1:]
		case x.answer.E == api.ErrWorn && b.asks(x.step) && wears(x.step):
			if !b.goes(x.step, none) {
				return i, false
			}
			b.chip.Restore()
			want = worn()
		default:
			want = b.answer(x.step)
		}
		if looked(x) != want {
			return i, false
		}
	}
	return len(l), false
}

// asks tells whether a step asks a rom that has power.
func (b *beside) asks(s api.Step) bool {
	return b.rom != nil && !b.chip.Out() && s.Kind >= api.StepRead && s.Kind <= api.StepStart
}

// out lets the power go, and leaves all else as it is.
func (b *beside) out() {
	b.chip.Cut(0, nil)
	b.chip.Blow(0)
}

// goes lets the power go at a step, in that way; false, if it can't. The step's first act is where it is seen that it does one.
func (b *beside) goes(s api.Step, way int) bool {
	b.chip.Cut(0, nil)
	b.answer(s)
	b.chip.Cut(-1, nil)
	if !b.chip.Out() || way > whole && s.Kind != api.StepStage {
		return false
	}
	if way == none {
		return true
	}
	b.chip.Restore()
	switch way {
	case whole:
		b.answer(s)
	case emptied:
		for _, p := range b.target(s.Bytes) {
			b.chip.Erase(p)
		}
	case laid:
		area.Write(b.chip, (b.target(s.Bytes)[0]-2)/b.config.Area, s.Bytes)
	}
	b.out()
	return true
}

// target are the pages of the area that a Stage is for: it is staged on another chip, and seen what was changed there.
func (b *beside) target(image []byte) []int {
	other := b.chip.Copy()
	s, _ := store.Mount(other)
	k, _, _ := keys.New(b.secrets())
	loader.New(other, s, k).Stage(image)
	was, then := b.chip.State(), other.State()
	for p := 2; p < len(was.Pages); p++ {
		if was.Erases[p] == then.Erases[p] && slices.Equal(was.Pages[p], then.Pages[p]) {
			continue
		}
		var pages []int
		for k := range b.config.Area {
			pages = append(pages, (p-2)/b.config.Area*b.config.Area+2+k)
		}
		return pages
	}
	panic("no area was changed")
}

// answer asks the rom; cuts are not asked for.
func (b *beside) answer(s api.Step) (a api.Answer) {
	var x api.Image
	switch {
	case s.Kind < api.StepRead || s.Kind > api.StepQuote:
		a.E = api.ErrKind
	case s.Kind == api.StepCut:
	case s.Kind == api.StepRestore:
		b.chip.Restore()
		b.rom = nil
	case s.Kind == api.StepMount:
		b.rom, a.E = rom.Mount(b.chip, b.secrets(), []byte("own"))
	case b.rom == nil:
		a.E = api.ErrState
	case s.Kind == api.StepRead:
		a.V, a.E = b.rom.Read(s.N)
	case s.Kind == api.StepBump:
		a.V, a.E = b.rom.Bump(s.N)
	case s.Kind == api.StepBumpTo:
		a.E = b.rom.BumpTo(s.N, s.V)
	case s.Kind == api.StepRevoke:
		a.E = b.rom.Revoke(s.N)
	case s.Kind == api.StepRevoked:
		a.Is, a.E = b.rom.Revoked(s.N)
	case s.Kind == api.StepBoot:
		x, a.E = b.rom.Boot(s.Bytes)
		a.V = x.Version
	case s.Kind == api.StepConfirm:
		a.E = b.rom.Confirm()
	case s.Kind == api.StepStage:
		a.E = b.rom.Stage(s.Bytes)
	case s.Kind == api.StepStart:
		x, _, a.E = b.rom.Start()
		if l := b.rom.Events(); a.E == api.OK {
			a.V, a.Hash = x.Version, l[len(l)-1].Digest
		}
	}
	return a
}
