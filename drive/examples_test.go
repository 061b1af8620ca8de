package drive_test

import (
	"slices"
	"testing"

	"portcullis/api"
	"portcullis/chain"
	"portcullis/chip"
	"portcullis/rom"
)

// Images of versions 1, 2 and 3, slot 0, key 0.
func imageA() []byte { return sized(0, 1, 60) }
func imageB() []byte { return sized(0, 2, 130) }
func imageC() []byte { return sized(0, 3, 200) }

// P18.1: the chapter's examples, each answer written out.
func TestExamples(t *testing.T) {
	cutting := func(mask ...byte) []api.Step {
		return []api.Step{cut(1, mask...), bump(0), read(0), restore(), read(0), mount(), read(0), bump(0)}
	}
	for i, y := range []struct {
		script []api.Step
		want   []api.Answer
	}{
		{[]api.Step{bump(0), read(0)}, []api.Answer{{V: 1, Acts: 2}, {V: 1, Acts: 2}}},
		{cutting(), []api.Answer{{}, {E: 8, Acts: 2}, {E: 8, Acts: 2}, {Acts: 2}, {E: 11, Acts: 2}, {Acts: 2}, {Acts: 2}, {E: 9, Acts: 2}}},
		{cutting(0xff), []api.Answer{{}, {E: 8, Acts: 2}, {E: 8, Acts: 2}, {Acts: 2}, {E: 11, Acts: 2}, {Acts: 2}, {V: 1, Acts: 2}, {V: 2, Acts: 3}}},
	} {
		if got := on(chapter()).plays(t, y.script...); !slices.Equal(got, y.want) {
			t.Errorf("%d: %v, want %v", i, got, y.want)
		}
	}
}

// values holds the Vs of answers against numbers, and that all of these are OK.
func values(t *testing.T, l []api.Answer, want ...int64) {
	t.Helper()
	var got []int64
	for _, a := range l {
		if a.E != api.OK {
			t.Fatalf("%v", l)
		}
		got = append(got, a.V)
	}
	if !slices.Equal(got, want) {
		t.Fatalf("%d, want %d", got, want)
	}
}

// The document's example 1: a blank chip, and three bumps.
func TestExample1(t *testing.T) {
	j := on(chapter())
	l := j.plays(t, read(0), bump(0), bump(0), bump(0))
	if want := []api.Answer{{}, {V: 1, Acts: 2}, {V: 2, Acts: 3}, {V: 3, Acts: 5}}; !slices.Equal(l, want) {
		t.Errorf("%v", l)
	}
	s := j.after(t, []api.Step{bump(0)})
	if s.Pages[0][0] != head(1) || s.Pages[0][1] != value(0, 1) || s.Pages[0][2] != filled(0xff) {
		t.Errorf("behind one bump: %x", s.Pages[0])
	}
	s = j.after(t, times(3, bump(0)))
	if s.Pages[0][3] != value(0, 3) || !slices.Equal(s.Blown, []bool{true, false, false}) {
		t.Errorf("behind three bumps: %x, %v", s.Pages[0], s.Blown)
	}
}

// The document's examples 2 and 3: the power goes at a record's act, with the mask 0f, and with ff.
func TestExamples2And3(t *testing.T) {
	j := on(chapter())
	script := []api.Step{bump(0), cut(0, 0x0f), bump(0), restore(), mount(), read(0), bump(0)}
	l := j.is(t, script, api.OK, api.OK, api.ErrPower, api.OK, api.OK, api.OK, api.OK)
	values(t, l[5:], 1, 2)
	s := j.after(t, script)
	if c := s.Pages[0][2]; c == filled(0xff) || c == value(0, 2) || isValue(c) || isHead(c) {
		t.Errorf("the cell 2 is not torn: %x", c)
	}
	if s.Pages[0][3] != value(0, 2) {
		t.Errorf("the next bump is not in the next cell: %x", s.Pages[0][3])
	}
	script[1] = cut(0, 0xff)
	values(t, j.plays(t, script...)[5:], 2, 3)
}

// The document's example 4: the page 0 is full; a cut ahead of the act of the page 1's head, or at it, changes no value.
func TestExample4(t *testing.T) {
	j := on(chapter())
	full := times(7, bump(0))
	s := j.after(t, steps(full, times(1, bump(0))))
	if s.Pages[1][0] != head(2) || s.Pages[1][1] != value(0, 8) || s.Pages[1][2] != filled(0xff) || s.Erases[1] != 0 {
		t.Errorf("the page 1: %x", s.Pages[1])
	}
	for at, want := range []int64{7, 7} {
		for _, mask := range [][]byte{nil, {0x0f}, {0xff}} {
			if at == 1 && len(mask) > 0 && mask[0] == 0xff {
				want = 8 // the head is whole
			}
			if a := j.ends(t, full, cut(at, mask...), bump(0), restore(), mount(), read(0)); a.V != want || a.E != api.OK {
				t.Errorf("a cut at the act %d, the mask %x: %v, want %d", at, mask, a, want)
			}
		}
	}
}

// The document's example 5, and W3: someone erases the flash by hand.
func TestExample5(t *testing.T) {
	j := on(chapter())
	for n, want := range []int64{0, 0, 0, 3, 3, 3, 6, 6, 6} {
		s := j.after(t, times(n, bump(0)))
		blown := int64(0)
		for _, is := range s.Blown[:2] {
			if is {
				blown++
			}
		}
		for p := range s.Pages {
			for i := range s.Pages[p] {
				s.Pages[p][i] = filled(0xff)
			}
		}
		c, e := chip.Lay(j.config, s)
		if e != api.OK {
			t.Fatal(e)
		}
		r, e := rom.Mount(c, j.secrets(), j.own)
		if e != api.OK {
			t.Fatal(e)
		}
		if v, e := r.Read(0); v != want || v != 3*blown || e != api.OK {
			t.Errorf("behind %d bumps: %d, %v, want %d", n, v, e, want)
		}
	}
}

// The document's example 6: a counter's end, and the log's.
func TestExample6(t *testing.T) {
	j := on(chapter())
	j.is(t, []api.Step{bumpTo(0, 9), bumpTo(0, 8), bump(0)}, api.ErrSaturated, api.OK, api.ErrSaturated)
	j.config.Step = 30
	a := j.ends(t, times(14, bump(0)), bump(0))
	if a.E != api.ErrWorn {
		t.Errorf("the 15th bump: %v", a)
	}
	if a := j.ends(t, times(15, bump(0)), read(0)); a.E != api.OK || a.V != 14 {
		t.Errorf("Read behind it: %v", a)
	}
	var torn []api.Step // with the counter of the example, cells that are torn fill the pages
	for range 6 {
		torn = append(torn, cut(0, 0x0f), bump(0), restore(), mount())
	}
	l := on(chapter()).plays(t, steps([]api.Step{bump(0)}, torn, []api.Step{bump(0)}, torn, []api.Step{bump(0), read(0)})...)
	if a, b := l[len(l)-2], l[len(l)-1]; a.E != api.ErrWorn || b.E != api.OK || b.V != 2 {
		t.Errorf("with torn cells: %v, %v", a, b)
	}
}

// The document's example 7: an image, as long as the value is at most its version and its key is not revoked.
func TestExample7(t *testing.T) {
	l := on(chapter()).is(t, []api.Step{
		boot(imageB()), bump(0), boot(imageB()), bump(0), boot(imageB()), boot(imageA()),
		boot(imageB()), confirm(), read(0), boot(imageB()), boot(imageA()), revoke(0), boot(imageB()), boot(imageA())},
		api.OK, api.OK, api.OK, api.OK, api.OK, api.ErrVersion,
		api.OK, api.OK, api.OK, api.OK, api.ErrVersion, api.OK, api.ErrRevoked, api.ErrRevoked)
	if l[0].V != 2 || l[8].V != 2 {
		t.Errorf("%v", l)
	}
	l = on(chapter()).is(t, []api.Step{boot(imageA()), boot(imageB()), confirm(), read(0), boot(imageA())}, api.OK, api.OK, api.OK, api.OK, api.ErrVersion)
	if l[3].V != 2 {
		t.Errorf("%v", l)
	}
	if a := on(chapter()).ends(t, times(3, bump(0)), boot(imageB())); a.E != api.ErrVersion {
		t.Errorf("above the version: %v", a)
	}
}

// The document's example 8: an update that is cut at any act.
func TestExample8(t *testing.T) {
	g := chapter()
	g.Area, g.Erases, g.Step = 1, 3, 100
	j := on(g)
	begin := []api.Step{stage(imageA()), start()}
	for _, again := range [][]api.Step{begin, {stage(imageC()), stage(imageA()), start()}} {
		acts := j.ends(t, again, stage(imageB())).Acts - j.ends(t, again).Acts
		for at := range acts + 1 {
			for _, mask := range [][]byte{nil, {0x0f}, {0xff}} {
				l := j.plays(t, steps(again, []api.Step{cut(at, mask...), stage(imageB()), restore(), mount(), start()})...)
				staged, a := l[len(l)-4].E, l[len(l)-1]
				last := at == acts || at == acts-1 && len(mask) == 1 && mask[0] == 0xff
				if want := hashOf(imageA()); !last && (a.E != api.OK || a.V != 1 || a.Hash != want) {
					t.Errorf("a cut at the act %d of %d, the mask %x: %v, want the old one", at, acts, mask, a)
				}
				if want := hashOf(imageB()); last && (a.E != api.OK || a.V != 2 || a.Hash != want) {
					t.Errorf("a cut at the act %d of %d, the mask %x: %v, want the new one", at, acts, mask, a)
				}
				if (staged == api.ErrPower) != (at < acts) {
					t.Errorf("a cut at the act %d of %d: %v", at, acts, staged)
				}
			}
		}
	}
}

// The document's example 9: a quote of two starts.
func TestExample9(t *testing.T) {
	j := on(chapter())
	wrong := turned(imageB(), 8*20)
	l := j.is(t, []api.Step{boot(imageB()), boot(wrong), quote("n")}, api.OK, api.ErrTag, api.OK)
	events := []api.Event{{Digest: hashOf(imageB())}, {Digest: hashOf(wrong), E: l[1].E}}
	if e := chain.Check(j.own, []byte("n"), events, l[2].Hash); e != api.OK {
		t.Errorf("the quote: %v", e)
	}
	for _, other := range [][]api.Event{nil, events[:1], events[1:], {events[1], events[0]}, {events[0], events[1], events[1]}} {
		if e := chain.Check(j.own, []byte("n"), other, l[2].Hash); e != api.ErrChain {
			t.Errorf("of %d events: %v", len(other), e)
		}
	}
	if e := chain.Check(j.own, []byte("m"), events, l[2].Hash); e != api.ErrChain {
		t.Errorf("with another nonce: %v", e)
	}
	if e := chain.Check([]byte("its other key"), []byte("n"), events, l[2].Hash); e != api.ErrChain {
		t.Errorf("under another key: %v", e)
	}
}
