package model_test

import (
	"crypto/sha256"
	"fmt"
	"math"
	"slices"
	"testing"

	"portcullis/api"
	"portcullis/image"
	"portcullis/model"
)

// The numbers of the document, written out.
const (
	mostBytes  = 524288
	mostEvents = 1024
	mostCuts   = 12
)

// chapter is the config of the chapter's examples.
func chapter() api.Config { return api.Config{Slots: 1, Cells: 8, Fuses: 2, Step: 3, Keys: 1} }

// wide has areas of 480 bytes, a log that is soon full, and pages that are never worn; its last value is 39.
func wide() api.Config {
	return api.Config{Cells: 5, Slots: 2, Fuses: 3, Step: 10, Keys: 8, Erases: 65536, Area: 3}
}

// job is what scripts are explained with.
type job struct {
	config api.Config
	known  []int // the keys whose secrets there are
}

// on knows the keys of a chip of wide, but for the last one, and one that is none of it.
func on(g api.Config) job { return job{g, []int{0, 1, 2, 3, 4, 5, 9}} }

func (j job) secrets() []api.Secret {
	var l []api.Secret
	for _, k := range j.known {
		l = append(l, api.Secret{Key: k, Bytes: secretOf(k)})
	}
	return l
}

func secretOf(key int) []byte { return []byte{byte(key), 0x5e, 0xc2} }

// signed is an image that is signed with the secret of whatever key.
func signed(by, slot, key int, version int64, payload ...byte) []byte {
	b, e := image.Make(secretOf(by), api.Image{Slot: slot, Key: key, Version: version, Payload: payload})
	if e != api.OK {
		panic(e)
	}
	return b
}

// right is an image that is signed with the key that it names.
func right(slot, key int, version int64, payload ...byte) []byte {
	return signed(key, slot, key, version, payload...)
}

// sized is an image of the slot 0 that has so many bytes in all.
func sized(key int, version int64, n int) []byte {
	return right(0, key, version, slices.Repeat([]byte{byte(n)}, n-48)...)
}

func turned(b []byte, bit int) []byte {
	c := slices.Clone(b)
	c[bit/8] ^= 1 << (bit % 8)
	return c
}

func read(slot int) api.Step            { return api.Step{Kind: api.StepRead, N: slot} }
func bump(slot int) api.Step            { return api.Step{Kind: api.StepBump, N: slot} }
func bumpTo(slot int, v int64) api.Step { return api.Step{Kind: api.StepBumpTo, N: slot, V: v} }
func revoke(key int) api.Step           { return api.Step{Kind: api.StepRevoke, N: key} }
func revoked(key int) api.Step          { return api.Step{Kind: api.StepRevoked, N: key} }
func boot(b []byte) api.Step            { return api.Step{Kind: api.StepBoot, Bytes: b} }
func confirm() api.Step                 { return api.Step{Kind: api.StepConfirm} }
func stage(b []byte) api.Step           { return api.Step{Kind: api.StepStage, Bytes: b} }
func start() api.Step                   { return api.Step{Kind: api.StepStart} }
func mount() api.Step                   { return api.Step{Kind: api.StepMount} }
func cut(n int, mask ...byte) api.Step  { return api.Step{Kind: api.StepCut, N: n, Bytes: mask} }
func restore() api.Step                 { return api.Step{Kind: api.StepRestore} }
func quote(nonce string) api.Step       { return api.Step{Kind: api.StepQuote, Bytes: []byte(nonce)} }
func is(s api.Step, kinds ...int) bool  { return slices.Contains(kinds, s.Kind) }

func value(v int64) api.Answer     { return api.Answer{V: v} }
func fails(e api.Errno) api.Answer { return api.Answer{E: e} }
func yes() api.Answer              { return api.Answer{Is: true} }
func fine() api.Answer             { return api.Answer{} }
func worn() api.Answer             { return fails(api.ErrWorn) }
func power() api.Answer            { return fails(api.ErrPower) }

// started is how a Start is answered that hands off an image.
func started(b []byte) api.Answer {
	x, err := image.Parse(b)
	if err != nil {
		panic(err)
	}
	return api.Answer{V: x.Version, Hash: sha256.Sum256(b)}
}

// line is a step, and how it is answered.
type line struct {
	step   api.Step
	answer api.Answer
}

// looked is what is looked at of an answer.
func looked(x line) api.Answer {
	x.answer.Acts = 0
	if x.step.Kind == api.StepQuote {
		x.answer.Hash = api.Hash{}
	}
	return x.answer
}

// ok are steps that are answered OK, with nothing beside it.
func ok(l ...api.Step) []line {
	var lines []line
	for _, s := range l {
		lines = append(lines, line{s, fine()})
	}
	return lines
}

// gone is a step at which the power goes; it comes again, and a rom is mounted.
func gone(s api.Step) []line { return lines([]line{{s, power()}}, ok(restore(), mount())) }

func lines(l ...[]line) []line { return slices.Concat(l...) }

func times(n int, l ...line) []line { return slices.Repeat(l, n) }

func split(l []line) (script []api.Step, answers []api.Answer) {
	for _, x := range l {
		script, answers = append(script, x.step), append(answers, x.answer)
	}
	return script, answers
}

// text tells the last of some lines.
func text(l []line) string {
	names := []string{"none", "read", "bump", "bumpto", "revoke", "revoked", "boot", "confirm", "stage", "start", "mount", "cut", "restore", "quote"}
	var all string
	for i, x := range l {
		if i < len(l)-40 {
			continue
		}
		name := fmt.Sprint(x.step.Kind)
		if 0 <= x.step.Kind && x.step.Kind < len(names) {
			name = names[x.step.Kind]
		}
		b := x.step.Bytes
		all += fmt.Sprintf("%4d %s %d %d %x (%d bytes): %d %d %v %x\n", i, name, x.step.N, x.step.V, b[:min(len(b), 20)], len(b), x.answer.E, x.answer.V, x.answer.Is, x.answer.Hash[:4])
	}
	return all
}

func (j job) explains(l []line) (bool, int) {
	script, answers := split(l)
	return model.Explains(j.config, j.secrets(), script, answers)
}

func (j job) explained(t *testing.T, l ...[]line) {
	t.Helper()
	if is, at := j.explains(lines(l...)); !is || at != 0 {
		t.Errorf("%v, %d, want it explained:\n%s", is, at, text(lines(l...)))
	}
}

// unexplained makes sure that lines are not explained, and by which step; nor if more stands behind them.
func (j job) unexplained(t *testing.T, want int, l ...[]line) {
	t.Helper()
	all := lines(l...)
	for _, more := range [][]line{nil, ok(cut(0)), {{read(0), worn()}}} {
		if is, at := j.explains(lines(all, more)); is || at != want {
			t.Errorf("%v, %d, want false, %d:\n%s", is, at, want, text(lines(all, more)))
		}
	}
}

// others are answers of all kinds, those that are near to the ones that may be among them.
func others(may []api.Answer) []api.Answer {
	l := []api.Answer{{V: 1}, {V: -1}, {V: math.MaxInt64}, {V: math.MinInt64}, {Is: true}, {Hash: api.Hash{31: 1}}, {E: math.MaxInt}, {E: math.MinInt}}
	for e := api.Errno(-2); e <= 22; e++ {
		l = append(l, api.Answer{E: e})
	}
	for _, a := range may {
		l = append(l, a)
		for bit := range 12 {
			b := a
			b.Hash[(7*bit+11)%32] ^= 1 << (bit % 8)
			l = append(l, b)
		}
		for _, change := range []func(a *api.Answer){
			func(a *api.Answer) { a.V-- },
			func(a *api.Answer) { a.V++ },
			func(a *api.Answer) { a.V = -a.V },
			func(a *api.Answer) { a.V += 1 << 32 },
			func(a *api.Answer) { a.Is = !a.Is },
			func(a *api.Answer) { a.Hash = api.Hash{} },
			func(a *api.Answer) { a.Hash = sha256.Sum256(nil) },
			func(a *api.Answer) { a.E = api.ErrWorn },
			func(a *api.Answer) { a.E = api.ErrPower },
			func(a *api.Answer) { a.E = api.OK },
		} {
			b := a
			change(&b)
			l = append(l, b)
		}
	}
	return l
}

// just makes sure that a step behind others may be answered so, and in no other way, whatever acts are told; and that it is the step which is told, if it isn't explained.
func (j job) just(t *testing.T, ahead []line, s api.Step, may ...api.Answer) {
	t.Helper()
	for i, a := range others(may) {
		a.Acts = []int{0, 7, -1, math.MaxInt}[i%4]
		if slices.Contains(may, looked(line{s, a})) {
			j.explained(t, ahead, []line{{s, a}})
		} else {
			j.unexplained(t, len(ahead), ahead, []line{{s, a}})
		}
	}
}
