package model

import (
	"errors"

	"portcullis/api"
	"portcullis/image"
	"portcullis/sha"
)

// found is what the gate finds in bytes, as far as that is the same in all states.
type found struct {
	wrong   api.Errno // with the form or the key
	signed  bool
	slot    int
	key     int
	version int64
}

// staged is what may lie in an area.
type staged struct {
	found
	digest api.Hash
}

// find looks at bytes as the gate does. A tag is asked only of a key that is known.
func (m *model) find(b []byte) found {
	x, err := image.Parse(b)
	f := found{wrong: number(err), slot: x.Slot, key: x.Key, version: x.Version}
	switch {
	case f.wrong != api.OK:
	case !m.hasSlot(x.Slot):
		f.wrong = api.ErrForm
	case !m.hasKey(x.Key) || !m.ring.Has(x.Key):
		f.wrong = api.ErrKey
	default:
		is, e := m.ring.Check(x.Key, image.Body(b), x.Tag)
		f.signed = is && e == api.OK
	}
	return f
}

// number tells an error's number. One that has none is no image either.
func number(err error) api.Errno {
	var e api.Errno
	if err != nil && !errors.As(err, &e) {
		return api.ErrForm
	}
	return e
}

// check tells what the gate says in a state, in the order of its rules.
func (m *model) check(f found, s state) api.Errno {
	switch {
	case f.wrong != api.OK:
		return f.wrong
	case s.isRevoked(f.key):
		return api.ErrRevoked
	case !f.signed:
		return api.ErrTag
	case f.version < s.numbers[f.slot] || f.version > m.last:
		return api.ErrVersion
	}
	return api.OK
}

func (m *model) boot(b []byte) deed {
	f := m.find(b)
	return func(s state, tell teller) {
		tried(f, m.check(f, s), api.Hash{}, s, tell)
	}
}

func (m *model) start(s state, tell teller) {
	n, e := m.started(s)
	if e != api.OK {
		tried(found{}, e, api.Hash{}, s, tell)
		return
	}
	x := m.staged[s.lies[n]]
	tried(x.found, api.OK, x.digest, s, tell)
}

// started tells the area from which an image is started; ErrNone, if none is.
func (m *model) started(s state) (int8, api.Errno) {
	for _, n := range [2]int8{s.first, 1 - s.first} {
		if m.check(m.staged[s.lies[n]].found, s) == api.OK {
			return n, api.OK
		}
	}
	return 0, api.ErrNone
}

// tried is an event, if there is room for one; an image is handed off only with it.
func tried(f found, e api.Errno, digest api.Hash, s state, tell teller) {
	s.handed = handed{}
	if s.events >= api.MaxEvents {
		tell.only(api.ErrMany, s)
		return
	}
	s.events++
	if e != api.OK {
		tell.only(e, s)
		return
	}
	s.handed = handed{is: true, slot: f.slot, version: f.version}
	tell(api.Answer{V: f.version, Hash: digest}, s)
}

func (m *model) stage(b []byte) deed {
	f := m.find(b)
	n := m.lay(f, b)
	return func(s state, tell teller) {
		e := m.check(f, s)
		if e == api.OK && len(b) > m.size {
			e = api.ErrBytes
		}
		if e != api.OK {
			tell.only(e, s)
			return
		}
		target := m.target(s)
		emptied, laid := s, s
		emptied.lies[target], laid.lies[target] = 0, n
		done := laid
		done.first = target
		tell.only(api.OK, done)
		tell.only(api.ErrWorn, s)
		tell.goes(s, emptied, laid, done)
	}
}

// lay tells the number of bytes that are to be staged. Bytes that are alike have one number, whichever step has brought them; such as no state lets in have none.
func (m *model) lay(f found, b []byte) int {
	if f.wrong != api.OK || !f.signed || len(b) > m.size {
		return 0
	}
	n, is := m.numbers[string(b)]
	if !is {
		n = len(m.staged)
		m.numbers[string(b)] = n
		m.staged = append(m.staged, staged{f, sha.Of(b)})
	}
	return n
}

// target tells the area that the next image is for: never the one that is started.
func (m *model) target(s state) int8 {
	if n, e := m.started(s); e == api.OK {
		return 1 - n
	}
	return 1 - s.first
}
