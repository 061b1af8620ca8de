package lines_test

import (
	"math/rand"
	"slices"
	"sync"
	"testing"

	"portcullis/api"
	"portcullis/lines"
)

// room is the same bytes with spare room behind them, of which nothing may be changed.
func room(b []byte) []byte {
	l := append(make([]byte, 0, len(b)+3), b...)
	copy(l[len(l):cap(l)], "\xa5\x5a\xc3")
	return l
}

// roomy is the same script with spare room behind each list.
func roomy(s lines.Script) lines.Script {
	c := lines.Script{Config: s.Config, Own: room(s.Own), Secrets: make([]api.Secret, 0, len(s.Secrets)+2), Steps: make([]api.Step, 0, len(s.Steps)+2)}
	for _, k := range s.Secrets {
		c.Secrets = append(c.Secrets, api.Secret{Key: k.Key, Bytes: room(k.Bytes)})
	}
	for _, x := range s.Steps {
		x.Bytes = room(x.Bytes)
		c.Steps = append(c.Steps, x)
	}
	for i := range 2 {
		c.Secrets[:cap(c.Secrets)][len(c.Secrets)+i] = api.Secret{Key: 70 + i, Bytes: room([]byte("spare"))}
		c.Steps[:cap(c.Steps)][len(c.Steps)+i] = api.Step{Kind: 80 + i, N: 1, V: 2, Bytes: room([]byte("spare"))}
	}
	return c
}

func whole(b []byte) []byte { return slices.Clone(b[:cap(b)]) }

// stretched is a script with its spare room, in other memory.
func stretched(s lines.Script) lines.Script {
	c := lines.Script{Config: s.Config, Own: whole(s.Own)}
	for _, k := range s.Secrets[:cap(s.Secrets)] {
		c.Secrets = append(c.Secrets, api.Secret{Key: k.Key, Bytes: whole(k.Bytes)})
	}
	for _, x := range s.Steps[:cap(s.Steps)] {
		x.Bytes = whole(x.Bytes)
		c.Steps = append(c.Steps, x)
	}
	return c
}

// again is the same script in other memory, without spare room.
func again(s lines.Script) lines.Script {
	c := lines.Script{Config: s.Config, Own: slices.Clone(s.Own), Secrets: slices.Clone(s.Secrets), Steps: slices.Clone(s.Steps)}
	for i := range c.Secrets {
		c.Secrets[i].Bytes = slices.Clone(c.Secrets[i].Bytes)
	}
	for i := range c.Steps {
		c.Steps[i].Bytes = slices.Clone(c.Steps[i].Bytes)
	}
	return c
}

// P23.6: what Print is given stays as it was, spare room too, whether it is taken or not.
func TestPrintUnchanged(t *testing.T) {
	r := rand.New(rand.NewSource(6))
	for n := range 400 {
		s := roomy(anyScript(r))
		if len(s.Steps) > 0 && n%4 > 0 {
			x := &s.Steps[r.Intn(len(s.Steps))]
			switch n % 4 {
			case 1:
				x.Kind = 14
			case 2:
				x.N, x.V, x.Bytes = 5, 6, []byte{7}
			case 3:
				s.Own = make([]byte, mostLine/2)
			}
		}
		was := stretched(s)
		text, e := lines.Print(s)
		if !same(stretched(s), was) {
			t.Fatalf("Print has changed its script: %q, %v", short(text), e)
		}
	}
}

// P23.6: what Print is given is not kept.
func TestPrintKeepsNothing(t *testing.T) {
	r := rand.New(rand.NewSource(7))
	for range 50 {
		s := roomy(anyScript(r))
		want := toldScript(s)
		got, _ := lines.Print(s)
		scribble(s)
		if got != want {
			t.Fatalf("%q, want %q", got, want)
		}
		for i := range s.Steps {
			s.Steps[i] = api.Step{Kind: api.StepQuote, Bytes: s.Steps[i].Bytes}
		}
		prints(t, s)
	}
}

// P23.1, P23.6: a script whose lists are one memory is told as any other.
func TestPrintSharedLists(t *testing.T) {
	b := []byte("0123456789")
	s := lines.Script{Own: b, Secrets: []api.Secret{{Bytes: b}, {Bytes: b[2:5]}}}
	for i := range b {
		s.Steps = append(s.Steps, api.Step{Kind: api.StepBoot, Bytes: b[i:]}, api.Step{Kind: api.StepCut, Bytes: b[:i]})
	}
	prints(t, s)
	if string(b) != "0123456789" {
		t.Errorf("%q", b)
	}
}

// scribble writes over all bytes, secrets' numbers and steps that a script has, spare room too, but leaves its lists where they are.
func scribble(s lines.Script) {
	over := func(b []byte) {
		for i := range b[:cap(b)] {
			b[:cap(b)][i] ^= 0x99
		}
	}
	over(s.Own)
	for i := range s.Secrets[:cap(s.Secrets)] {
		x := &s.Secrets[:cap(s.Secrets)][i]
		over(x.Bytes)
		x.Key = -4242
	}
	for i := range s.Steps[:cap(s.Steps)] {
		x := &s.Steps[:cap(s.Steps)][i]
		over(x.Bytes)
		x.Kind, x.N, x.V = 99, -1, -1
	}
}

// rows are all lists of bytes that a script has.
func rows(s lines.Script) []*[]byte {
	l := []*[]byte{&s.Own}
	for i := range s.Secrets {
		l = append(l, &s.Secrets[i].Bytes)
	}
	for i := range s.Steps {
		l = append(l, &s.Steps[i].Bytes)
	}
	return l
}

// P23.6: of what Parse tells no list reaches into another one: each is written over, and appended to, by itself.
func TestParseListsApart(t *testing.T) {
	r := rand.New(rand.NewSource(8))
	texts := []string{text(long()...), text(example()...)}
	for range 60 {
		texts = append(texts, toldScript(anyScript(r)))
	}
	for _, text := range texts {
		s := takes(t, text)
		was := again(s)
		theirs := rows(was)
		for i, b := range rows(s) {
			_ = append(*b, 0xee, 0xee, 0xee)
			for k := range (*b)[:cap(*b)] {
				(*b)[:cap(*b)][k] ^= 0x77
			}
			copy(*theirs[i], *b)
			if !same(s, was) {
				t.Fatalf("%q: the bytes number %d are a part of something else", short(text), i)
			}
		}
		_ = append(s.Secrets, api.Secret{Key: -1}, api.Secret{Key: -2})
		_ = append(s.Steps, api.Step{Kind: -1}, api.Step{Kind: -2})
		if !same(s, was) {
			t.Fatalf("%q: what is laid behind a list is seen in it", short(text))
		}
		own := slices.Clone(s.Own)
		for i := range s.Secrets[:cap(s.Secrets)] {
			s.Secrets[:cap(s.Secrets)][i] = api.Secret{Key: -3}
		}
		if !slices.EqualFunc(s.Steps, was.Steps, sameStep) {
			t.Fatalf("%q: the secrets are a part of the steps", short(text))
		}
		for i := range s.Steps[:cap(s.Steps)] {
			s.Steps[:cap(s.Steps)][i] = api.Step{Kind: -3}
		}
		if !slices.Equal(s.Own, own) {
			t.Fatalf("%q: the own bytes are a part of a list", short(text))
		}
	}
}

// P23.6, R4: two answers share nothing, and nothing is kept of the first one.
func TestParseAnswersApart(t *testing.T) {
	for text := range nearly() {
		want := words(text)
		a, b := parsed(text), parsed(text)
		scribble(a.script)
		if !b.same(want) {
			t.Errorf("%q: the second answer has changed with the first one", text)
		}
		if c := parsed(text); !c.same(want) {
			t.Errorf("%q: the third answer has changed with the first one", text)
		}
	}
}

// P23.6: answers stay as they were, spare room too, and what is told of them is not kept.
func TestAnswersUnchanged(t *testing.T) {
	r := rand.New(rand.NewSource(9))
	for range 100 {
		var l []api.Answer
		for range 3 + r.Intn(9) {
			l = append(l, anyAnswer(r))
		}
		was, some := slices.Clone(l), l[:2]
		text := lines.PrintAnswers(some)
		if !slices.Equal(l, was) {
			t.Fatal("PrintAnswers has changed its answers")
		}
		a, b := answersTake(t, text), answersTake(t, text)
		for i := range a[:cap(a)] {
			a[:cap(a)][i] = api.Answer{V: -77}
		}
		some[0], some[1] = api.Answer{}, api.Answer{}
		if !slices.Equal(b, was[:2]) || text != toldAnswers(was[:2]) {
			t.Fatal("an answer has changed with another one")
		}
	}
}

// R4: a call is answered alike when it is done again, behind other calls, and beside itself.
func TestOneAnswer(t *testing.T) {
	r := rand.New(rand.NewSource(10))
	texts := []string{"", "x", text(example()...), text(long()...), text(example()[:2]...), text(example()...) + "fly\n", ring("bump 0", "bump 1", "quote 6e"), with(example(), 1, "chip 3 1 2 3 1 0 0")}
	for range 30 {
		texts = append(texts, toldScript(anyScript(r)))
	}
	var scripts []answer
	var outs []string
	for _, s := range texts {
		scripts = append(scripts, words(s))
		outs = append(outs, played(t, s))
	}
	var wait sync.WaitGroup
	for range 4 {
		wait.Add(1)
		go func() {
			defer wait.Done()
			for n := range 2 * len(texts) {
				i := n % len(texts)
				if got := parsed(texts[i]); !got.same(scripts[i]) {
					t.Errorf("Parse(%q): %v at %d", short(texts[i]), got.e, got.at)
				}
				if got := lines.Run(texts[i]); got != outs[i] {
					t.Errorf("Run(%q): %q", short(texts[i]), short(got))
				}
			}
		}()
	}
	wait.Wait()
}

// R4: the same script and the same answers, told by several at one time.
func TestPrintAtOneTime(t *testing.T) {
	r := rand.New(rand.NewSource(11))
	s := anyScript(r)
	for range 500 {
		s.Steps = append(s.Steps, anyStep(r))
	}
	bad := again(s)
	bad.Steps[400].Kind = 0
	var l []api.Answer
	for range 500 {
		l = append(l, anyAnswer(r))
	}
	want, wantAnswers := toldScript(s), toldAnswers(l)
	var wait sync.WaitGroup
	for range 4 {
		wait.Add(1)
		go func() {
			defer wait.Done()
			for range 2 {
				if got, e := lines.Print(s); got != want || e != api.OK {
					t.Errorf("another text, %v", e)
				}
				if got, e := lines.Print(bad); got != "" || e != api.ErrKind {
					t.Errorf("%q, %v", short(got), e)
				}
				if got := lines.PrintAnswers(l); got != wantAnswers {
					t.Error("another text of answers")
				}
				if got, e, at := lines.ParseAnswers(wantAnswers); !slices.Equal(got, l) || e != api.OK || at != 0 {
					t.Errorf("other answers, %v at %d", e, at)
				}
			}
		}()
	}
	wait.Wait()
}
