package model

import "portcullis/api"

// teller takes an answer that there may be, and the state behind it.
type teller func(api.Answer, state)

// deed is what a step may do in a state: it tells all that may be answered.
type deed func(s state, tell teller)

// only tells an error with nothing beside it; or that all went well, where there is nothing else to tell.
func (tell teller) only(e api.Errno, s state) { tell(api.Answer{E: e}, s) }

// goes tells that the power went, with each state that may be left. When it has gone as often as it may, it is not told any more, so that nothing explains it.
func (tell teller) goes(left ...state) {
	for _, s := range left {
		if s.cuts < api.MaxCuts {
			s.cuts++
			s.power = false
			tell.only(api.ErrPower, s)
		}
	}
}

// deed tells what a step may do. What does not hang on the state is found out here, once for all of them.
func (m *model) deed(x api.Step) deed {
	switch x.Kind {
	case api.StepCut:
		return nothing
	case api.StepRestore:
		return restore
	case api.StepMount:
		return mount
	case api.StepQuote:
		return onRom(nothing)
	}
	if do := m.asked(x); do != nil {
		return onRom(withPower(do))
	}
	return func(s state, tell teller) { tell.only(api.ErrKind, s) }
}

// asked tells what a step does that asks a rom with power; nil, if there is no such kind.
func (m *model) asked(x api.Step) deed {
	switch x.Kind {
	case api.StepRead:
		return m.read(x.N)
	case api.StepBump:
		return m.bump(x.N)
	case api.StepBumpTo:
		return m.bumpTo(x.N, x.V)
	case api.StepRevoke:
		return m.revoke(x.N)
	case api.StepRevoked:
		return m.revoked(x.N)
	case api.StepBoot:
		return m.boot(x.Bytes)
	case api.StepConfirm:
		return m.confirm
	case api.StepStage:
		return m.stage(x.Bytes)
	case api.StepStart:
		return m.start
	}
	return nil
}

// onRom is a deed for which there must be a rom.
func onRom(do deed) deed {
	return func(s state, tell teller) {
		if !s.rom {
			tell.only(api.ErrState, s)
			return
		}
		do(s, tell)
	}
}

// withPower is a deed for which there must be power.
func withPower(do deed) deed {
	return func(s state, tell teller) {
		if !s.power {
			tell.only(api.ErrPower, s)
			return
		}
		do(s, tell)
	}
}

func nothing(s state, tell teller) { tell.only(api.OK, s) }

func restore(s state, tell teller) {
	s.power, s.rom = true, false
	tell.only(api.OK, s)
}

func mount(s state, tell teller) {
	s.rom = s.power
	if !s.power {
		tell.only(api.ErrPower, s)
		return
	}
	s.handed, s.events = handed{}, 0
	tell.only(api.OK, s)
}
