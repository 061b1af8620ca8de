package stream_test

import (
	"fmt"
	"math/rand"
	"strings"
	"sync"
	"testing"

	"portcullis/api"
)

// script is a random one: what is done to a gate, and to its store, one behind the other.
type script struct {
	t    testing.TB
	r    *rand.Rand
	x    *bench
	f    *flow
	rest [][]byte // what is to be written next
	text strings.Builder
}

func scriptOf(t testing.TB, seed int64) *script {
	x := benchOf(t, api.Config{Cells: 12, Slots: 3, Fuses: 7, Step: 10, Keys: 6, Erases: 60}, 0, 1, 2, 5, 7)
	s := &script{t: t, r: rand.New(rand.NewSource(seed)), x: x}
	s.raise()
	s.x.revoke(t, 2)
	s.f = x.flow()
	return s
}

// says takes an answer down.
func (s *script) says(what string, answer any) { fmt.Fprintln(&s.text, what, answer) }

// write lays the next piece of some row behind what was written; without power it is handed in again later.
func (s *script) write() {
	if len(s.rest) == 0 {
		s.rest = cut(s.r, anyRow(s.r, s.x))
		if s.r.Intn(4) > 0 {
			s.reset()
		}
		return
	}
	s.says("Write", s.f.writes(s.t, s.rest[0]))
	if !s.x.out {
		s.rest = s.rest[1:]
	}
}

func (s *script) sum() { s.says("Sum", s.f.sums(s.t)) }

func (s *script) digest() {
	s.f.digests(s.t)
	s.says("Digest", s.f.g.Digest())
}

func (s *script) reset() {
	s.f.resets(s.t)
	s.says("Reset", nil)
}

// raise raises a counter a little, while it may be.
func (s *script) raise() {
	slot := s.r.Intn(s.x.config.Slots)
	v := s.x.values[slot] + s.r.Int63n(4)
	if s.x.out || v > s.x.last()-20 {
		return
	}
	s.x.raise(s.t, slot, v)
	s.says("BumpTo", v)
}

// activate uses the store for something that no gate asks for.
func (s *script) activate() {
	n, e := s.x.store.Active()
	if e == api.OK {
		e = s.x.store.Activate(n + 1)
	}
	s.says("Activate", e)
}

func (s *script) power() {
	if s.x.out {
		s.x.restore()
	} else {
		s.x.off(s.t)
	}
	s.says("out", s.x.out)
}

// revoke revokes a key; few are left to be revoked, so that it is seldom done.
func (s *script) revoke() {
	if s.x.out || s.r.Intn(8) > 0 {
		return
	}
	key := s.r.Intn(s.x.config.Keys)
	s.x.revoke(s.t, key)
	s.says("Revoke", key)
}

// play does so many random steps, and tells all that was answered.
func (s *script) play(steps int) string {
	for range steps {
		switch n := s.r.Intn(40); {
		case n < 24:
			s.write()
		case n < 31:
			s.sum()
		case n < 34:
			s.digest()
		case n < 35:
			s.raise()
		case n < 36:
			s.activate()
		case n < 37:
			s.revoke()
		case n < 38:
			s.reset()
		default:
			s.power()
		}
	}
	return s.text.String()
}

// P26.1: all calls answer as said, in every order, while the store is used for other things, and the power goes and comes.
func TestEveryOrder(t *testing.T) {
	for seed := range int64(300) {
		scriptOf(t, seed).play(200)
	}
}

// R4: the same script has the same answers, run twice, and two at one time over stores of their own.
func TestTogether(t *testing.T) {
	for seed := range int64(10) {
		first := scriptOf(t, seed).play(300)
		if scriptOf(t, seed).play(300) != first {
			t.Error("run twice the answers are others")
		}
		var texts [4]string
		var wg sync.WaitGroup
		for i := range texts {
			s := scriptOf(t, seed)
			wg.Go(func() { texts[i] = s.play(300) })
		}
		wg.Wait()
		for _, text := range texts {
			if text != first {
				t.Error("at one time the answers are others")
			}
		}
	}
}

// refusal is an error of a Write, and whether image.Parse told it.
type refusal struct {
	e       api.Errno
	byParse bool
}

// holds makes sure of P26.3 behind each error of a Write since the last Reset, by what Sum tells now.
func holds(t *testing.T, f *flow, refusals []refusal) (very int) {
	t.Helper()
	_, _, _, _, e := f.g.Sum()
	for _, r := range refusals {
		if e == api.OK {
			t.Fatalf("%s: Sum is OK behind %d", short(f.all), r.e)
		}
		if f.x.out {
			continue
		}
		if form(f.all) == api.OK || r.byParse && len(f.all) <= mostBytes {
			if e != r.e {
				t.Fatalf("%s: Sum is %d behind %d", short(f.all), e, r.e)
			}
			very++
		}
	}
	return very
}

// P26.3: behind an error of a Write Sum is an error, whatever is written then, and in those cases that very error; over many random scripts without a revocation and a raise between.
func TestErrorsStay(t *testing.T) {
	r := rand.New(rand.NewSource(279))
	x := ordinary(t)
	var seen [20]int
	var others int
	for range 1500 {
		f := x.flow()
		var refusals []refusal
		for range 1 + r.Intn(3) { // the first row, and what is written behind it
			for _, p := range cut(r, anyRow(r, x)) {
				if e := f.writes(t, p); e != api.OK {
					refusals = append(refusals, refusal{e, form(f.all) == e})
				}
				very := holds(t, f, refusals)
				others += len(refusals) - very
				if very > 0 {
					seen[refusals[0].e]++
				}
				if r.Intn(20) == 0 {
					x.off(t)
					holds(t, f, refusals)
					f.expects(t, "x", api.ErrPower)
					x.restore()
				}
			}
		}
		f.resets(t)
		f.takes(t, right(1, 1, 5))
		f.ends(t, api.OK)
	}
	for _, e := range []api.Errno{api.ErrForm, api.ErrRest, api.ErrKey, api.ErrRevoked} {
		if seen[e] < 100 {
			t.Errorf("%d stayed %d times", e, seen[e])
		}
	}
	if others < 100 {
		t.Errorf("another error %d times", others)
	}
}

// P26.3: an error that the store or the ring gave becomes one of the form's where the bytes are no image, and is that very one again where they are.
func TestErrorsAtTheEnd(t *testing.T) {
	x := ordinary(t)
	for _, c := range []struct {
		b    []byte
		want api.Errno
	}{{right(3, 1, 5, 'p'), api.ErrForm}, {right(1, 7, 5, 'p'), api.ErrKey}, {right(1, 3, 5, 'p'), api.ErrKey}, {right(1, 2, 5, 'p'), api.ErrRevoked}, {by(1, 1, 2, 4, 'p'), api.ErrRevoked}} {
		f := x.flow()
		f.expects(t, string(c.b[:7]), c.want)
		f.ends(t, api.ErrShort)
		f.expects(t, string(c.b[7:20]), c.want)
		f.ends(t, api.ErrShort)
		f.expects(t, string(c.b[20:]), c.want)
		f.ends(t, c.want)
		f.expects(t, "x", api.ErrRest)
		f.ends(t, api.ErrRest)
		f.resets(t)
		f.expects(t, string(c.b[:7]), c.want)
		f.expects(t, "\x01", api.ErrForm)
		f.ends(t, api.ErrForm)
	}
}

// P26.3: where Parse has told an error, nothing that is written then makes it another one up to the last byte that may be; then it is ErrBytes.
func TestErrorsOfParseStay(t *testing.T) {
	r := rand.New(rand.NewSource(280))
	x := ordinary(t)
	for range 30 {
		b := anyOf(r, behind(right(1, 1, 5), 0), with(right(1, 1, 5), r.Intn(5), 0xee), with(right(1, 1, 5), 7, 1), with(right(1, 1, 5), 14, 9))
		f := x.flow()
		want := f.writes(t, b)
		if want != form(b) || want == api.ErrShort {
			t.Fatalf("%s: %d", short(b), want)
		}
		for len(f.all) < mostBytes {
			f.writes(t, anyBytes(r, min(mostBytes-len(f.all), 1+r.Intn(200000))))
			f.ends(t, want)
		}
		f.expects(t, "x", api.ErrBytes)
		f.ends(t, api.ErrBytes)
	}
}

// W11: whatever comes in whatever pieces is handed off just if it is handed off whole.
func FuzzPieces(f *testing.F) {
	f.Add([]byte("PCUL\x01\x00\x02x"), []byte{6, 1})
	f.Add([]byte("PXCUL"), []byte{2})
	f.Add(right(1, 1, 5, 'p'), []byte{1, 0, 4, 0, 3})
	f.Add(right(1, 2, 5, 'p'), []byte{7, 40})
	f.Add(right(3, 1, 5, 'p'), []byte{})
	f.Add(behind(right(1, 1, 5), 0), []byte{48})
	f.Fuzz(func(t *testing.T, b, lengths []byte) {
		w := ordinary(t).flow()
		w.asks(t)
		for _, n := range lengths {
			at := min(int(n), len(b))
			w.writes(t, b[:at])
			w.asks(t)
			b = b[at:]
		}
		w.writes(t, b)
		w.asks(t)
	})
}
