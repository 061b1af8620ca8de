package lines_test

import (
	"math"
	"math/rand"
	"slices"
	"strings"
	"testing"

	"portcullis/api"
	"portcullis/lines"
)

// anyNumber is small, or at an edge, or whatever.
func anyNumber(r *rand.Rand) int {
	switch r.Intn(4) {
	case 0:
		return r.Intn(20) - 5
	case 1:
		return edges()[r.Intn(len(edges()))]
	}
	return int(r.Uint64() >> r.Intn(64))
}

func anyBytes(r *rand.Rand) []byte {
	if r.Intn(4) == 0 {
		return nil
	}
	b := make([]byte, r.Intn(1+r.Intn(80)))
	r.Read(b)
	return b
}

func anyStep(r *rand.Rand) api.Step {
	k := kinds()[r.Intn(13)]
	s := api.Step{Kind: k.kind}
	for _, f := range k.fields {
		switch f {
		case 'N':
			s.N = anyNumber(r)
		case 'V':
			s.V = int64(anyNumber(r))
		case 'B':
			s.Bytes = anyBytes(r)
		}
	}
	return s
}

// anyScript is one that Print takes.
func anyScript(r *rand.Rand) lines.Script {
	var n [7]int
	for i := range n {
		n[i] = anyNumber(r)
	}
	s := lines.Script{Config: api.Config{Cells: n[0], Slots: n[1], Fuses: n[2], Step: n[3], Keys: n[4], Erases: n[5], Area: n[6]}, Own: anyBytes(r)}
	for range r.Intn(5) {
		s.Secrets = append(s.Secrets, api.Secret{Key: anyNumber(r), Bytes: anyBytes(r)})
	}
	for range r.Intn(20) {
		s.Steps = append(s.Steps, anyStep(r))
	}
	return s
}

func anyAnswer(r *rand.Rand) api.Answer {
	a := api.Answer{E: api.Errno(anyNumber(r)), V: int64(anyNumber(r)), Is: r.Intn(2) == 0, Acts: anyNumber(r)}
	switch r.Intn(3) {
	case 0:
		r.Read(a.Hash[:])
	case 1:
		a.Hash[r.Intn(32)] = byte(r.Intn(256))
	}
	return a
}

// P23.5: what is told is read as what it was told of.
func TestThereAndBack(t *testing.T) {
	r := rand.New(rand.NewSource(3))
	for range 3000 {
		prints(t, anyScript(r))
	}
	for range 3000 {
		var l []api.Answer
		for range r.Intn(8) {
			l = append(l, anyAnswer(r))
		}
		printsAnswers(t, l...)
	}
}

// P23.1: a script with one step that is wrong, anywhere, tells that; one with several tells the first.
func TestPrintAnyWrong(t *testing.T) {
	r := rand.New(rand.NewSource(4))
	for range 3000 {
		s := anyScript(r)
		want := api.OK
		for i := range s.Steps {
			e := api.OK
			switch x := &s.Steps[i]; {
			case r.Intn(30) == 0:
				x.Kind, e = []int{0, 14, -1, math.MinInt, math.MaxInt}[r.Intn(5)], api.ErrKind
			case r.Intn(30) == 0 && x.Kind != api.StepBumpTo:
				x.V, e = int64(1+r.Intn(9)), api.ErrArg
			}
			if want == api.OK {
				want = e
			}
		}
		if want == api.OK {
			prints(t, s)
		} else {
			refuses(t, s, want)
		}
	}
}

// changes goes through all texts that one byte changed, left out or put in makes of a text, with each of these bytes.
func changes(text string, by []byte, do func(string)) {
	for i := range len(text) + 1 {
		for _, b := range by {
			do(text[:i] + string([]byte{b}) + text[i:])
			if i < len(text) && text[i] != b {
				do(text[:i] + string([]byte{b}) + text[i+1:])
			}
		}
		if i < len(text) {
			do(text[:i] + text[i+1:])
		}
	}
}

func allBytes() []byte {
	var l []byte
	for b := range 256 {
		l = append(l, byte(b))
	}
	return l
}

// nearly are texts of which each byte is changed, and with which ones.
func nearly() map[string][]byte {
	some := []byte("\x00\t\n\r +-/0159:@AFG`abcdefghkmnoprstuvwyz\xff")
	return map[string][]byte{
		text(example()...):                            allBytes(),
		text(long()...):                               some,
		text("chip 0 1 -1 10 7 2 3", "own -"):         allBytes(),
		text("chip 0 0 0 0 0 0 0", "own 0f", "start"): allBytes(),
	}
}

// P23.2, P23.5: whatever is read is printed byte by byte, and nothing else is read than the words say.
func TestOneByte(t *testing.T) {
	for s, by := range nearly() {
		counts(t, s, by, holds)
	}
}

// P23.3, P23.5: the same of answers.
func TestAnswersOneByte(t *testing.T) {
	for _, s := range []string{"0 0 0 - 0\n", "12 -3 1 " + strings.Repeat("0123456789abcdef", 4) + " 45\n", text("7 0 0 - 1", "0 1 0 "+zeros[1:]+"1 1")} {
		counts(t, s, allBytes(), answersHold)
	}
}

// counts holds all changes of a text against the words: some must be taken, and some not.
func counts(t *testing.T, s string, by []byte, holds func(*testing.T, string) bool) {
	t.Helper()
	taken, refused := 0, 0
	changes(s, by, func(s string) {
		if holds(t, s) {
			taken++
		} else {
			refused++
		}
	})
	if taken == 0 || refused == 0 {
		t.Errorf("%q: %d changes were taken, %d refused", s, taken, refused)
	}
}

// P23.2, P23.5: two bytes exchanged for one another, next to each other or not.
func TestTwoBytes(t *testing.T) {
	s := text(example()...)
	for i := range len(s) {
		for k := range i {
			b := []byte(s)
			b[i], b[k] = b[k], b[i]
			holds(t, string(b))
		}
	}
}

// P23.2, P23.5: texts whose lines are of their forms, but stand anywhere.
func TestAnyLines(t *testing.T) {
	r := rand.New(rand.NewSource(5))
	taken := 0
	for range 20000 {
		l := strings.Split(strings.TrimSuffix(toldScript(anyScript(r)), "\n"), "\n")
		for range r.Intn(3) {
			at := r.Intn(len(l))
			switch r.Intn(4) {
			case 0:
				l = slices.Insert(l, at, l[r.Intn(len(l))])
			case 1:
				if len(l) > 1 {
					l = slices.Delete(l, at, at+1)
				}
			case 2:
				l = slices.Insert(l, at, long()[r.Intn(len(long()))])
			default:
				k := r.Intn(len(l))
				l[at], l[k] = l[k], l[at]
			}
		}
		if holds(t, text(l...)) {
			taken++
		}
	}
	if taken < 5000 || taken > 19000 {
		t.Errorf("%d texts were taken: the test tells little", taken)
	}
}

// FuzzParse looks for a text that is answered otherwise than the words say; by itself it takes its seeds alone.
func FuzzParse(f *testing.F) {
	for s := range nearly() {
		f.Add(s)
	}
	f.Fuzz(func(t *testing.T, s string) { holds(t, s) })
}

// FuzzParseAnswers does so of answers.
func FuzzParseAnswers(f *testing.F) {
	f.Add(text(answerLines()...))
	f.Fuzz(func(t *testing.T, s string) { answersHold(t, s) })
}
