package wear_test

import (
	"math"
	"math/rand"
	"testing"

	"portcullis/api"
	"portcullis/drive"
	"portcullis/image"
	"portcullis/wear"
)

// P20.2: each kind of step, of the chapter's config, without areas, of the least and the greatest.
func TestActs(t *testing.T) {
	bare := chapter()
	bare.Area = 0
	for _, x := range []struct {
		config                    api.Config
		raise, revoke, stage, all int // all: how many kinds do acts
	}{
		{chapter(), 9, 1, 12, 5},
		{bare, 9, 1, 5, 5},
		{least(), 5, 1, 4, 5},
		{tight(), 13, 1, 35, 5},
		{wide(), 5, 1, 4, 5},
		{greatest(), 75, 1, 16459, 5},
	} {
		want := map[int]int{
			api.StepNone:    0,
			api.StepRead:    0,
			api.StepBump:    x.raise,
			api.StepBumpTo:  x.raise,
			api.StepRevoke:  x.revoke,
			api.StepRevoked: 0,
			api.StepBoot:    0,
			api.StepConfirm: x.raise,
			api.StepStage:   x.stage,
			api.StepStart:   0,
			api.StepMount:   0,
			api.StepCut:     0,
			api.StepRestore: 0,
			api.StepQuote:   0,
		}
		for kind, n := range want {
			if got := wear.Acts(x.config, kind); got != n {
				t.Errorf("Acts(%+v, %d): %d, want %d", x.config, kind, got, n)
			}
		}
		some := 0
		for kind := -300; kind < 300; kind++ {
			if wear.Acts(x.config, kind) != 0 {
				some++
			}
		}
		if some != x.all {
			t.Errorf("%+v: %d kinds do acts, want %d", x.config, some, x.all)
		}
	}
}

// P20.2: what is no kind does no act.
func TestActsOfNoKind(t *testing.T) {
	for _, kind := range []int{math.MinInt, math.MinInt + 1, math.MinInt + api.StepBump, -1 << 32, -9, -api.StepStage, -api.StepBump, -1, api.StepQuote + 1, api.StepQuote + 2, 99, 256 + api.StepBump, 1<<32 + api.StepBump, 1<<32 + api.StepStage, math.MaxInt - 1, math.MaxInt} {
		for _, g := range []api.Config{chapter(), least(), greatest()} {
			if n := wear.Acts(g, kind); n != 0 {
				t.Errorf("Acts(%+v, %d): %d", g, kind, n)
			}
		}
	}
}

func secrets() []api.Secret { return []api.Secret{{Key: 0, Bytes: []byte("key")}} }

// signed is an image that a chip's gate takes, of that many bytes, as long as its counter isn't beyond that version.
func signed(t *testing.T, slot int, version int64, size int) []byte {
	t.Helper()
	const beside = 48 // a head and a tag
	b, e := image.Make([]byte("key"), api.Image{Slot: slot, Version: version, Payload: make([]byte, max(0, size-beside))})
	if e != api.OK {
		t.Fatal(e)
	}
	return b
}

// counted plays a script and tells how many acts each step did.
func counted(t *testing.T, g api.Config, script []api.Step) ([]int, []api.Answer) {
	t.Helper()
	answers, e := drive.Run(g, secrets(), []byte("own"), script)
	if e != api.OK {
		t.Fatal(e)
	}
	acts, before := make([]int, len(script)), 0
	for i, a := range answers {
		acts[i], before = a.Acts-before, a.Acts
	}
	return acts, answers
}

// anyStep is one of all kinds, and of none.
func anyStep(t *testing.T, r *rand.Rand, g api.Config) api.Step {
	last := int64(g.Step*g.Fuses + g.Step - 1)
	version := r.Int63n(last + 1)
	switch r.Intn(12) {
	case 0, 1, 2:
		return api.Step{Kind: api.StepBump, N: r.Intn(g.Slots)}
	case 3:
		return api.Step{Kind: api.StepBumpTo, N: r.Intn(g.Slots), V: version}
	case 4:
		return api.Step{Kind: api.StepConfirm}
	case 5:
		return api.Step{Kind: api.StepStage, Bytes: signed(t, r.Intn(g.Slots), version, r.Intn(32*g.Cells*g.Area+9))}
	case 6:
		return api.Step{Kind: api.StepBoot, Bytes: signed(t, r.Intn(g.Slots), version, 0)}
	case 7:
		return api.Step{Kind: api.StepStart}
	case 8:
		return api.Step{Kind: api.StepCut, N: r.Intn(9), Bytes: masks()[r.Intn(len(masks()))]}
	case 9:
		return api.Step{Kind: api.StepRestore}
	case 10:
		return api.Step{Kind: api.StepMount}
	}
	return api.Step{Kind: r.Intn(api.StepQuote+3) - 1, N: r.Intn(g.Slots)}
}

// P20.6: no step does more acts than Acts says.
func TestNoMoreActs(t *testing.T) {
	r := rand.New(rand.NewSource(6))
	for _, g := range makes() {
		for range 60 {
			script := make([]api.Step, 60)
			for i := range script {
				script[i] = anyStep(t, r, g)
				if i > 0 && script[i-1].Kind == api.StepRestore {
					script[i] = api.Step{Kind: api.StepMount}
				}
			}
			acts, answers := counted(t, g, script)
			for i, n := range acts {
				if most := wear.Acts(g, script[i].Kind); n > most {
					t.Fatalf("%+v: step %d, %+v: %d acts, answered %v; at most %d", g, i, script[i], n, answers[i], most)
				}
			}
		}
	}
}

// P20.6: there are steps that do all the acts that Acts says: it tells no more than it must.
func TestAsManyActs(t *testing.T) {
	g := api.Config{Cells: 6, Slots: 2, Fuses: 4, Step: 1, Keys: 1, Erases: 9, Area: 2}
	small, whole := signed(t, 0, 4, 0), signed(t, 0, 4, 32*g.Cells*g.Area)
	for _, last := range []api.Step{
		{Kind: api.StepBumpTo, N: 0, V: 4},
		{Kind: api.StepConfirm},
		{Kind: api.StepStage, Bytes: whole},
		{Kind: api.StepRevoke},
	} {
		most := 0
		for lays := range 20 {
			script := []api.Step{{Kind: api.StepBump, N: 1}}
			if last.Kind == api.StepStage { // it is to have all numbers to take over
				script = append(script, api.Step{Kind: api.StepBump, N: 0})
			}
			for range lays {
				script = append(script, api.Step{Kind: api.StepStage, Bytes: whole})
			}
			script = append(script, api.Step{Kind: api.StepBoot, Bytes: small}, last)
			acts, _ := counted(t, g, script)
			most = max(most, acts[len(acts)-1])
		}
		if want := wear.Acts(g, last.Kind); most != want {
			t.Errorf("%d: at most %d acts, want %d", last.Kind, most, want)
		}
	}
}
