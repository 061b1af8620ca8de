package model

import (
	"testing"

	"portcullis/api"
	"portcullis/image"
	"portcullis/keys"
)

// cutAt tells the states behind steps at each of which the power went.
func cutAt(t *testing.T, script ...api.Step) (*model, states) {
	t.Helper()
	ring, _, _ := keys.New([]api.Secret{{Key: 0, Bytes: []byte("k")}})
	m := begin(api.Config{Cells: 5, Slots: 2, Fuses: 3, Step: 10, Keys: 4, Area: 3}, ring)
	can := states{{rom: true, power: true}: {}}
	for _, x := range script {
		can = behind(can, m.deed(x), api.Answer{E: api.ErrPower})
		can = behind(can, m.deed(api.Step{Kind: api.StepRestore}), api.Answer{})
		can = behind(can, m.deed(api.Step{Kind: api.StepMount}), api.Answer{})
	}
	return m, can
}

// Ways: states that come out alike by different ways are there once.
func TestEachStateOnce(t *testing.T) {
	bumpTo := func(slot int, v int64) api.Step { return api.Step{Kind: api.StepBumpTo, N: slot, V: v} }
	revoke := api.Step{Kind: api.StepRevoke, N: 3}
	stage := func(payload ...byte) api.Step {
		b, _ := image.Make([]byte("k"), api.Image{Version: 9, Payload: payload})
		return api.Step{Kind: api.StepStage, Bytes: b}
	}
	for i, y := range []struct {
		script       []api.Step
		want, staged int
	}{
		{nil, 1, 0},
		{[]api.Step{bumpTo(0, 5)}, 2, 0},
		{[]api.Step{bumpTo(0, 5), bumpTo(0, 5), bumpTo(0, 5), bumpTo(0, 5)}, 2, 0},
		{[]api.Step{bumpTo(0, 5), bumpTo(1, 5), bumpTo(0, 5), bumpTo(1, 5)}, 4, 0},
		{[]api.Step{bumpTo(0, 5), bumpTo(0, 6), bumpTo(0, 7)}, 4, 0},
		{[]api.Step{revoke, revoke, revoke}, 2, 0},
		{[]api.Step{stage(1)}, 3, 1},                    // it lies in the area 1, which comes first, or doesn't; or nothing does, either way
		{[]api.Step{stage(1), stage(1)}, 5, 1},          // these; and it lies in both areas, either of which comes first
		{[]api.Step{stage(1), stage(2)}, 7, 2},          // the three with the one or the other in the area 1 (one of them in common); and both, with either area first
		{[]api.Step{stage(1), revoke, stage(1)}, 10, 1}, // each with the key revoked, and without
	} {
		m, can := cutAt(t, y.script...)
		if len(can) != y.want || len(m.staged) != 1+y.staged {
			t.Errorf("%d: %d states, want %d; %d rows of bytes, want %d", i, len(can), y.want, len(m.staged)-1, y.staged)
		}
	}
}
