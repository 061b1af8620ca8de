package drive_test

import (
	"fmt"
	"math/rand"
	"slices"
	"testing"

	"portcullis/api"
	"portcullis/chip"
	"portcullis/drive"
)

// chapter is the config of the chapter's examples and of the document's.
func chapter() api.Config { return api.Config{Slots: 1, Cells: 8, Fuses: 2, Step: 3, Keys: 1} }

// roomy has areas of 512 bytes, and a log of which no page is soon full.
func roomy() api.Config {
	return api.Config{Cells: 16, Slots: 1, Fuses: 2, Step: 100, Keys: 2, Erases: 9, Area: 1}
}

// several has areas of several pages, 480 bytes each, and a log that is soon full.
func several() api.Config {
	return api.Config{Cells: 5, Slots: 2, Fuses: 3, Step: 10, Keys: 3, Erases: 4, Area: 3}
}

func unerased() api.Config {
	return api.Config{Cells: 4, Slots: 1, Fuses: 2, Step: 8, Keys: 3, Area: 2}
}

// tight has as many slots, and as few cells for them, as there may be.
func tight() api.Config {
	return api.Config{Cells: 11, Slots: 8, Fuses: 2, Step: 20, Keys: 4, Erases: 3, Area: 1}
}

func bare() api.Config {
	return api.Config{Cells: 8, Slots: 1, Fuses: 2, Step: 50, Keys: 3, Erases: 3}
}

// single has a fuse for each value.
func single() api.Config {
	return api.Config{Cells: 6, Slots: 2, Fuses: 20, Step: 1, Keys: 3, Erases: 7, Area: 2}
}

func configs() []api.Config {
	return []api.Config{roomy(), several(), unerased(), tight(), bare(), single()}
}

func size(g api.Config) int { return 32 * g.Cells * g.Area }

// job is all that a script is played with.
type job struct {
	config api.Config
	known  []int
	own    []byte
}

func on(g api.Config) job { return job{g, []int{0, 1, 2}, []byte("its own key")} }

func (j job) secrets() []api.Secret {
	var l []api.Secret
	for _, k := range j.known {
		l = append(l, api.Secret{Key: k, Bytes: secretOf(k)})
	}
	return l
}

func (j job) run(t *testing.T, script []api.Step) []api.Answer {
	t.Helper()
	l, e := drive.Run(j.config, j.secrets(), j.own, script)
	if e != api.OK || len(l) != len(script) {
		t.Fatalf("Run of %d steps: %v, %d answers", len(script), e, len(l))
	}
	return l
}

func (j job) after(t *testing.T, script []api.Step) api.Chip {
	t.Helper()
	s, e := drive.After(j.config, j.secrets(), j.own, script)
	if e != api.OK {
		t.Fatalf("After: %v", e)
	}
	return s
}

// plays plays a script and holds it against the words: each answer, the chip behind it, and one of the test's own, to which the same acts are done.
func (j job) plays(t *testing.T, script ...api.Step) []api.Answer {
	t.Helper()
	want, p := j.by(script)
	got := j.run(t, script)
	for i := range want {
		if got[i] != want[i] {
			t.Fatalf("%+v: step %d of\n%sanswers %v, want %v", j.config, i, texts(script), got[i], want[i])
		}
	}
	s := j.after(t, script)
	if !same(s, p.holds) {
		t.Fatalf("%+v: behind\n%sthe chip holds %v, want %v", j.config, texts(script), s, p.holds)
	}
	if !same(s, j.byHand(t, p.history)) {
		t.Fatalf("%+v: behind\n%sthe chip is not what its acts leave", j.config, texts(script))
	}
	return got
}

// byHand is what acts leave on a chip of one's own.
func (j job) byHand(t *testing.T, l []done) api.Chip {
	t.Helper()
	c, e := chip.New(j.config)
	if e != api.OK {
		t.Fatal(e)
	}
	for _, d := range l {
		if d.cut {
			c.Cut(0, d.mask)
		}
		switch d.act.kind {
		case "blow":
			e = c.Blow(d.act.fuse)
		case "erase":
			e = c.Erase(d.act.page)
		case "program":
			e = c.Program(d.act.page, d.act.cell, d.act.x)
		}
		if d.cut != (e == api.ErrPower) || !d.cut && e != api.OK {
			t.Fatalf("%v: %v", d, e)
		}
		c.Restore()
	}
	return c.State()
}

// is holds the errors of a script's answers against those that the test has written out, and all else against the words.
func (j job) is(t *testing.T, script []api.Step, want ...api.Errno) []api.Answer {
	t.Helper()
	got := j.plays(t, script...)
	if len(got) != len(want) {
		t.Fatalf("%d answers, want %d", len(got), len(want))
	}
	for i := range want {
		if got[i].E != want[i] {
			t.Fatalf("step %d of\n%sanswers %v, want %v", i, texts(script), got[i].E, want[i])
		}
	}
	return got
}

// ends plays a script, and tells its last answer.
func (j job) ends(t *testing.T, script []api.Step, more ...api.Step) api.Answer {
	t.Helper()
	l := j.plays(t, steps(script, more)...)
	return l[len(l)-1]
}

func steps(l ...[]api.Step) []api.Step { return slices.Concat(l...) }

func read(slot int) api.Step             { return api.Step{Kind: api.StepRead, N: slot} }
func bump(slot int) api.Step             { return api.Step{Kind: api.StepBump, N: slot} }
func bumpTo(slot int, v int64) api.Step  { return api.Step{Kind: api.StepBumpTo, N: slot, V: v} }
func revoke(key int) api.Step            { return api.Step{Kind: api.StepRevoke, N: key} }
func revoked(key int) api.Step           { return api.Step{Kind: api.StepRevoked, N: key} }
func boot(b []byte) api.Step             { return api.Step{Kind: api.StepBoot, Bytes: b} }
func confirm() api.Step                  { return api.Step{Kind: api.StepConfirm} }
func stage(b []byte) api.Step            { return api.Step{Kind: api.StepStage, Bytes: b} }
func start() api.Step                    { return api.Step{Kind: api.StepStart} }
func mount() api.Step                    { return api.Step{Kind: api.StepMount} }
func cut(n int, mask ...byte) api.Step   { return api.Step{Kind: api.StepCut, N: n, Bytes: mask} }
func restore() api.Step                  { return api.Step{Kind: api.StepRestore} }
func quote(nonce string) api.Step        { return api.Step{Kind: api.StepQuote, Bytes: []byte(nonce)} }
func is(s api.Step, kinds ...int) bool   { return slices.Contains(kinds, s.Kind) }
func times(n int, s api.Step) []api.Step { return slices.Repeat([]api.Step{s}, n) }

// kinds are all that there are.
func kinds() []int { return []int{1, 2, 3, 4, 5, 6, 7, 8, 9, 10, 11, 12, 13} }

// gone lets the power go, at an act that leaves nothing.
func gone() []api.Step { return []api.Step{cut(0), revoke(0)} }

func name(kind int) string {
	names := []string{"none", "read", "bump", "bumpto", "revoke", "revoked", "boot", "confirm", "stage", "start", "mount", "cut", "restore", "quote"}
	if kind < 0 || kind >= len(names) {
		return fmt.Sprint(kind)
	}
	return names[kind]
}

func text(s api.Step) string {
	b := s.Bytes
	if len(b) > 40 {
		return fmt.Sprintf("%s %d %d %x.. (%d bytes)", name(s.Kind), s.N, s.V, b[:40], len(b))
	}
	return fmt.Sprintf("%s %d %d %x", name(s.Kind), s.N, s.V, b)
}

func texts(l []api.Step) string {
	var all string
	for i, s := range l {
		all += fmt.Sprintf("%4d %s\n", i, text(s))
	}
	return all
}

func row(r *rand.Rand, n int) []byte {
	b := make([]byte, n)
	r.Read(b)
	return b
}

func turned(b []byte, bit int) []byte {
	c := slices.Clone(b)
	c[bit/8] ^= 1 << (bit % 8)
	return c
}

func masks(r *rand.Rand) [][]byte {
	return [][]byte{nil, {0}, ones(), {0x0f}, {0xff, 0x00}, {0x00, 0xff, 0xff}, row(r, 32), row(r, 7), row(r, 200)}
}
