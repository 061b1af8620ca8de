package drive_test

import (
	"slices"

	"portcullis/api"
)

// played is a script played by the words: each step by the chapter's table, each act bit by bit.
type played struct {
	words
	own     []byte
	acts    int
	out     bool
	cut     waiting
	rom     bool
	events  []api.Event
	handed  []int64 // a slot and a version; nothing, if nothing was
	history []done
}

// waiting is a cut that is to come.
type waiting struct {
	is    bool
	ahead int
	mask  []byte
}

// done is an act that was done, and with which mask, if the power went at it.
type done struct {
	act  act
	cut  bool
	mask []byte
}

// begun is what is there ahead of the first step: a blank chip, and a rom on it.
func begun(j job) *played {
	s := api.Chip{Erases: make([]int, 2+2*j.config.Area), Blown: make([]bool, j.config.Slots*j.config.Fuses+j.config.Keys)}
	for range s.Erases {
		s.Pages = append(s.Pages, slices.Repeat([]api.Cell{filled(0xff)}, j.config.Cells))
	}
	return &played{words: words{j.config, s, j.known}, own: j.own, rom: true}
}

// by are the answers of a script, and what the chip holds then.
func (j job) by(script []api.Step) ([]api.Answer, *played) {
	p := begun(j)
	var l []api.Answer
	for _, s := range script {
		l = append(l, p.step(s))
	}
	return l, p
}

func (p *played) step(s api.Step) api.Answer {
	a := p.answer(s)
	if a.E != api.OK {
		a = api.Answer{E: a.E}
	}
	a.Acts = p.acts
	return a
}

func (p *played) answer(s api.Step) api.Answer {
	switch {
	case s.Kind < 1 || s.Kind > 13:
		return api.Answer{E: api.ErrKind}
	case s.Kind == api.StepCut:
		p.cut = waiting{s.N >= 0, s.N, s.Bytes}
		return api.Answer{}
	case s.Kind == api.StepRestore:
		p.out, p.rom = false, false
		return api.Answer{}
	case s.Kind == api.StepMount:
		p.rom, p.events, p.handed = !p.out, nil, nil
		return api.Answer{E: p.power()}
	case !p.rom:
		return api.Answer{E: api.ErrState}
	case s.Kind == api.StepQuote:
		return api.Answer{Hash: quoteOf(p.own, s.Bytes, p.events)}
	case p.out:
		return api.Answer{E: api.ErrPower}
	}
	return p.asked(s)
}

func (p *played) power() api.Errno {
	if p.out {
		return api.ErrPower
	}
	return api.OK
}

// asked is a step of a rom that has power.
func (p *played) asked(s api.Step) api.Answer {
	slot := 0 <= s.N && s.N < p.config.Slots
	key := 0 <= s.N && s.N < p.config.Keys
	switch s.Kind {
	case api.StepRead, api.StepBump:
		if !slot {
			return api.Answer{E: api.ErrRange}
		}
		v := p.value(s.N)
		if s.Kind == api.StepRead {
			return api.Answer{V: v}
		}
		return api.Answer{E: p.does(p.bumpTo(s.N, v+1)), V: v + 1}
	case api.StepBumpTo:
		return api.Answer{E: p.does(p.bumpTo(s.N, s.V))}
	case api.StepRevoke, api.StepRevoked:
		if !key {
			return api.Answer{E: api.ErrRange}
		}
		is := p.revoked(s.N)
		if s.Kind == api.StepRevoked || is {
			return api.Answer{Is: is && s.Kind == api.StepRevoked}
		}
		return api.Answer{E: p.does(api.OK, []act{{kind: "blow", fuse: p.config.Slots*p.config.Fuses + s.N}})}
	case api.StepBoot:
		x, e := p.check(s.Bytes)
		return p.tried(hashOf(s.Bytes), x, e)
	case api.StepConfirm:
		if p.handed == nil {
			return api.Answer{E: api.ErrState}
		}
		return api.Answer{E: p.does(p.bumpTo(int(p.handed[0]), p.handed[1]))}
	case api.StepStage:
		return api.Answer{E: p.does(p.stage(s.Bytes))}
	}
	x, _, e, b := p.start()
	if e != api.OK {
		return p.tried(api.Hash{}, x, e)
	}
	a := p.tried(hashOf(b), x, e)
	a.Hash = hashOf(b)
	return a
}

// tried is what came of a Boot or a Start.
func (p *played) tried(h api.Hash, x api.Image, e api.Errno) api.Answer {
	p.handed = nil
	if len(p.events) >= mostEvents {
		return api.Answer{E: api.ErrMany}
	}
	p.events = append(p.events, api.Event{Digest: h, E: e})
	if e == api.OK {
		p.handed = []int64{int64(x.Slot), x.Version}
	}
	return api.Answer{E: e, V: x.Version}
}

// does does acts, up to the one at which the power goes.
func (p *played) does(e api.Errno, l []act) api.Errno {
	for _, a := range l {
		p.acts++
		if p.cut.is && p.cut.ahead == 0 {
			p.words.done(a, p.cut.mask)
			p.history = append(p.history, done{a, true, p.cut.mask})
			p.out, p.cut = true, waiting{}
			return api.ErrPower
		}
		p.words.done(a, ones())
		p.history = append(p.history, done{act: a})
		p.cut.ahead--
	}
	return e
}
