package drive_test

import (
	"slices"

	"portcullis/api"
)

// What follows is the model of chapter 19, without a chip: an operation at which the power went took effect or not.

// state is one of the model.
type state struct {
	slots   [8]int64
	revoked [64]bool
	lies    [2]int // of both areas: 0, if nothing lies there, else one more than the number of the step that staged it
	first   int    // the area that comes first
	handed  int    // one more than the slot of what was handed off; 0, if nothing was
	version int64
	events  int
	rom     bool
	power   bool
}

// outcome is what a step may be answered, and the state behind it.
type outcome struct {
	answer api.Answer
	then   state
}

type model struct {
	job
	script []api.Step
}

// explained tells whether answers may be those of a script; if not, the first step that isn't explained.
func (j job) explained(script []api.Step, answers []api.Answer) (bool, int) {
	m := model{j, script}
	can := map[state]bool{{rom: true, power: true}: true}
	for i := range script {
		told := answers[i]
		told.Acts = 0
		if script[i].Kind == api.StepQuote {
			told.Hash = api.Hash{}
		}
		next := map[state]bool{}
		for s := range can {
			for _, o := range m.may(s, i) {
				if o.answer == told {
					next[o.then] = true
				}
			}
		}
		if len(next) == 0 {
			return false, i
		}
		can = next
	}
	return true, 0
}

// just is the one outcome that there is.
func just(a api.Answer, s state) []outcome { return []outcome{{a, s}} }

func fails(e api.Errno, s state) []outcome { return just(api.Answer{E: e}, s) }

// changes are the outcomes of a step that does acts: all of it; nothing, for wear; or the power goes, and one of the states is there.
func changes(a api.Answer, was, then state, between ...state) []outcome {
	l := []outcome{{a, then}, {api.Answer{E: api.ErrWorn}, was}}
	for _, s := range append(between, was, then) {
		s.power = false
		l = append(l, outcome{api.Answer{E: api.ErrPower}, s})
	}
	return l
}

func (m model) may(s state, i int) []outcome {
	x := m.script[i]
	switch {
	case x.Kind < 1 || x.Kind > 13:
		return fails(api.ErrKind, s)
	case x.Kind == api.StepCut:
		return fails(api.OK, s)
	case x.Kind == api.StepRestore:
		s.power, s.rom = true, false
		return fails(api.OK, s)
	case x.Kind == api.StepMount && !s.power:
		s.rom = false
		return fails(api.ErrPower, s)
	case x.Kind == api.StepMount:
		s.rom, s.handed, s.version, s.events = true, 0, 0, 0
		return fails(api.OK, s)
	case !s.rom:
		return fails(api.ErrState, s)
	case x.Kind == api.StepQuote:
		return fails(api.OK, s)
	case !s.power:
		return fails(api.ErrPower, s)
	}
	return m.asked(s, i)
}

// asked is a step of a rom that has power.
func (m model) asked(s state, i int) []outcome {
	x := m.script[i]
	slot := 0 <= x.N && x.N < m.config.Slots
	key := 0 <= x.N && x.N < m.config.Keys
	switch x.Kind {
	case api.StepRead, api.StepBump:
		if !slot {
			return fails(api.ErrRange, s)
		}
		v := s.slots[x.N]
		if x.Kind == api.StepRead {
			return just(api.Answer{V: v}, s)
		}
		return m.bumped(s, x.N, v+1, api.Answer{V: v + 1})
	case api.StepBumpTo:
		if !slot || x.V < 0 {
			return fails(api.ErrRange, s)
		}
		return m.bumped(s, x.N, x.V, api.Answer{})
	case api.StepConfirm:
		if s.handed == 0 {
			return fails(api.ErrState, s)
		}
		return m.bumped(s, s.handed-1, s.version, api.Answer{})
	case api.StepRevoke, api.StepRevoked:
		if !key {
			return fails(api.ErrRange, s)
		}
		if x.Kind == api.StepRevoked {
			return just(api.Answer{Is: s.revoked[x.N]}, s)
		}
		return m.revokes(s, x.N)
	case api.StepBoot:
		im, e := m.check(s, x.Bytes)
		return m.tried(s, im, e, api.Hash{})
	case api.StepStart:
		im, n, e := m.started(s)
		if e != api.OK {
			return m.tried(s, im, e, api.Hash{})
		}
		return m.tried(s, im, e, hashOf(m.script[s.lies[n]-1].Bytes))
	}
	return m.stages(s, i)
}

func (m model) last() int64 { return int64(m.config.Step*m.config.Fuses + m.config.Step - 1) }

func (m model) bumped(s state, slot int, v int64, a api.Answer) []outcome {
	then := s
	then.slots[slot] = v
	switch {
	case v <= s.slots[slot]:
		return just(a, s)
	case v > m.last():
		return fails(api.ErrSaturated, s)
	}
	return changes(a, s, then)
}

// revokes has no wear: a fuse is never refused.
func (m model) revokes(s state, key int) []outcome {
	then := s
	then.revoked[key] = true
	if s.revoked[key] {
		return just(api.Answer{}, s)
	}
	return slices.DeleteFunc(changes(api.Answer{}, s, then), func(o outcome) bool { return o.answer.E == api.ErrWorn })
}

// check is the gate's answer in a state.
func (m model) check(s state, b []byte) (api.Image, api.Errno) {
	x, e := form(b)
	switch {
	case e != api.OK:
	case x.Slot >= m.config.Slots:
		e = api.ErrForm
	case !slices.Contains(m.known, x.Key) || x.Key >= m.config.Keys:
		e = api.ErrKey
	case s.revoked[x.Key]:
		e = api.ErrRevoked
	case x.Tag != tagOf(secretOf(x.Key), b[:len(b)-32]):
		e = api.ErrTag
	case x.Version < s.slots[x.Slot] || x.Version > m.last():
		e = api.ErrVersion
	}
	if e != api.OK {
		return api.Image{}, e
	}
	return x, api.OK
}

// tried is a Boot, or a Start, which tells a hash too.
func (m model) tried(s state, x api.Image, e api.Errno, h api.Hash) []outcome {
	s.handed, s.version = 0, 0
	if s.events >= mostEvents {
		return fails(api.ErrMany, s)
	}
	s.events++
	if e != api.OK {
		return fails(e, s)
	}
	s.handed, s.version = x.Slot+1, x.Version
	return just(api.Answer{V: x.Version, Hash: h}, s)
}

// started is what the loader's Start tells in a state.
func (m model) started(s state) (api.Image, int, api.Errno) {
	for _, n := range []int{s.first, 1 - s.first} {
		if s.lies[n] == 0 {
			continue
		}
		if x, e := m.check(s, m.script[s.lies[n]-1].Bytes); e == api.OK {
			return x, n, api.OK
		}
	}
	return api.Image{}, 0, api.ErrNone
}

func (m model) stages(s state, i int) []outcome {
	b := m.script[i].Bytes
	if _, e := m.check(s, b); e != api.OK {
		return fails(e, s)
	}
	if len(b) > size(m.config) {
		return fails(api.ErrBytes, s)
	}
	target := 1 - s.first
	if _, n, e := m.started(s); e == api.OK {
		target = 1 - n
	}
	empty, laid := s, s
	empty.lies[target] = 0
	laid.lies[target] = i + 1
	then := laid
	then.first = target
	return changes(api.Answer{}, s, then, empty, laid)
}
