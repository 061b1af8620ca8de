package model

import "portcullis/api"

func (m *model) hasSlot(n int) bool { return 0 <= n && n < m.config.Slots }

func (m *model) hasKey(n int) bool { return 0 <= n && n < m.config.Keys }

// beyond is what a step does whose slot or key is none, or whose value is below 0: the same in all states.
func beyond(s state, tell teller) { tell.only(api.ErrRange, s) }

func (m *model) read(slot int) deed {
	if !m.hasSlot(slot) {
		return beyond
	}
	return func(s state, tell teller) { tell(api.Answer{V: s.numbers[slot]}, s) }
}

func (m *model) bump(slot int) deed {
	if !m.hasSlot(slot) {
		return beyond
	}
	return func(s state, tell teller) {
		v := s.numbers[slot] + 1
		m.raise(slot, v, api.Answer{V: v}, s, tell)
	}
}

func (m *model) bumpTo(slot int, v int64) deed {
	if !m.hasSlot(slot) || v < 0 {
		return beyond
	}
	return func(s state, tell teller) { m.raise(slot, v, api.Answer{}, s, tell) }
}

func (m *model) confirm(s state, tell teller) {
	if !s.handed.is {
		tell.only(api.ErrState, s)
		return
	}
	m.raise(s.handed.slot, s.handed.version, api.Answer{}, s, tell)
}

// raise brings a slot to v, and answers so. Where it is as far already no act is done, and the power can't go.
func (m *model) raise(slot int, v int64, answer api.Answer, s state, tell teller) {
	if v <= s.numbers[slot] {
		tell(answer, s)
		return
	}
	if v > m.last {
		tell.only(api.ErrSaturated, s)
		return
	}
	raised := s
	raised.numbers[slot] = v
	tell(answer, raised)
	tell.only(api.ErrWorn, s)
	tell.goes(s, raised)
}

// revoke blows one fuse, which no wear keeps it from.
func (m *model) revoke(key int) deed {
	if !m.hasKey(key) {
		return beyond
	}
	return func(s state, tell teller) {
		revoked := s
		revoked.revoked |= 1 << key
		tell.only(api.OK, revoked)
		if revoked != s {
			tell.goes(s, revoked)
		}
	}
}

func (m *model) revoked(key int) deed {
	if !m.hasKey(key) {
		return beyond
	}
	return func(s state, tell teller) { tell(api.Answer{Is: s.isRevoked(key)}, s) }
}

func (s state) isRevoked(key int) bool { return s.revoked>>key&1 == 1 }
