package token

import (
	"portcullis/api"
	"portcullis/store"
)

const (
	mostVersion = 1<<32 - 1
	mostValue   = 1 << 62
	steps       = 1<<(api.StepQuote+1) - 1<<api.StepRead // a bit for each kind of step
	setBits     = 64
)

// demand is what a caveat asks, with just the fields that count for its kind.
type demand interface {
	may() bool                              // are these fields such as may be?
	unmet(s *store.Store, w Wish) api.Errno // what is told where a wish doesn't meet it; OK, where it does
}

// demandOf tells what a caveat asks; false, if it may not be: its kind is none, a field that doesn't count is not zero, or one that counts may not be.
func demandOf(c Caveat) (demand, bool) {
	var d demand
	var only Caveat
	switch c.Kind {
	case Slot:
		d, only = atSlot{c.Slot}, Caveat{Kind: Slot, Slot: c.Slot}
	case Version:
		d, only = inVersions{c.From, c.To}, Caveat{Kind: Version, From: c.From, To: c.To}
	case Kinds:
		d, only = ofKinds{c.Set}, Caveat{Kind: Kinds, Set: c.Set}
	case Least:
		d, only = atLeast{c.Slot, c.From}, Caveat{Kind: Least, Slot: c.Slot, From: c.From}
	case Most:
		d, only = atMost{c.Slot, c.To}, Caveat{Kind: Most, Slot: c.Slot, To: c.To}
	default:
		return nil, false
	}
	if c != only || !d.may() {
		return nil, false
	}
	return d, true
}

// atSlot asks that a wish is about a slot.
type atSlot struct{ slot int }

func (x atSlot) may() bool { return maySlot(x.slot) }

func (x atSlot) unmet(s *store.Store, w Wish) api.Errno {
	if w.Slot != x.slot {
		return api.ErrRange
	}
	return api.OK
}

// inVersions asks that a wish's version is one of a row.
type inVersions struct{ from, to int64 }

func (x inVersions) may() bool { return 0 <= x.from && x.from <= x.to && x.to <= mostVersion }

func (x inVersions) unmet(s *store.Store, w Wish) api.Errno {
	if w.Version < x.from || w.Version > x.to {
		return api.ErrVersion
	}
	return api.OK
}

// ofKinds asks that a wish is a step of one of some kinds.
type ofKinds struct{ set uint64 }

func (x ofKinds) may() bool { return x.set != 0 && x.set|steps == steps }

func (x ofKinds) unmet(s *store.Store, w Wish) api.Errno {
	if w.Kind < 0 || w.Kind >= setBits || x.set>>w.Kind&1 == 0 {
		return api.ErrKind
	}
	return api.OK
}

// atLeast asks that a slot's value has come so far.
type atLeast struct {
	slot int
	from int64
}

func (x atLeast) may() bool { return maySlot(x.slot) && mayValue(x.from) }

func (x atLeast) unmet(s *store.Store, w Wish) api.Errno {
	value, e := s.Read(x.slot)
	if e == api.OK && value < x.from {
		return api.ErrState
	}
	return e
}

// atMost asks that a slot's value has come no farther.
type atMost struct {
	slot int
	to   int64
}

func (x atMost) may() bool { return maySlot(x.slot) && mayValue(x.to) }

func (x atMost) unmet(s *store.Store, w Wish) api.Errno {
	value, e := s.Read(x.slot)
	if e == api.OK && value > x.to {
		return api.ErrState
	}
	return e
}

func maySlot(slot int) bool { return 0 <= slot && slot < api.MaxSlots }

func mayValue(n int64) bool { return 0 <= n && n <= mostValue }
