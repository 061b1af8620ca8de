package fleet_test

import (
	"fmt"
	"math/rand"
	"slices"
	"testing"

	"portcullis/api"
	"portcullis/drive"
	"portcullis/fleet"
	"portcullis/image"
	"portcullis/model"
)

// The numbers of the document, written out.
const (
	mostFleet  = 64
	mostScript = 1024
	mostCuts   = 12
	mostKeys   = 64
	mostSecret = 256
)

// chapter is the config of the chapter's examples.
func chapter() api.Config { return api.Config{Slots: 1, Cells: 8, Fuses: 2, Step: 3, Keys: 1} }

// wide has areas of 480 bytes, and a log that is soon full.
func wide() api.Config {
	return api.Config{Cells: 5, Slots: 2, Fuses: 3, Step: 400, Keys: 3, Erases: 9, Area: 3}
}

func configs() []api.Config {
	return []api.Config{
		chapter(),
		wide(),
		{Cells: 16, Slots: 1, Fuses: 2, Step: 100, Keys: 2, Erases: 9, Area: 1},
		{Cells: 4, Slots: 1, Fuses: 2, Step: 8, Keys: 3, Area: 4},
		{Cells: 11, Slots: 8, Fuses: 2, Step: 20, Keys: 4, Erases: 3, Area: 1},
		{Cells: 6, Slots: 2, Fuses: 20, Step: 1, Keys: 3, Erases: 7, Area: 2},
	}
}

func secretOf(key int) []byte { return []byte{byte(key), 0x5e, 0xc2} }

func secrets(n int) []api.Secret {
	var l []api.Secret
	for k := range n {
		l = append(l, api.Secret{Key: k, Bytes: secretOf(k)})
	}
	return l
}

// signed is an image that is signed with the key that it names.
func signed(slot, key int, version int64, payload ...byte) []byte {
	b, e := image.Make(secretOf(key), api.Image{Slot: slot, Key: key, Version: version, Payload: payload})
	if e != api.OK {
		panic(e)
	}
	return b
}

func read(slot int) api.Step            { return api.Step{Kind: api.StepRead, N: slot} }
func bump(slot int) api.Step            { return api.Step{Kind: api.StepBump, N: slot} }
func bumpTo(slot int, v int64) api.Step { return api.Step{Kind: api.StepBumpTo, N: slot, V: v} }
func revoke(key int) api.Step           { return api.Step{Kind: api.StepRevoke, N: key} }
func revoked(key int) api.Step          { return api.Step{Kind: api.StepRevoked, N: key} }
func boot(b []byte) api.Step            { return api.Step{Kind: api.StepBoot, Bytes: b} }
func confirm() api.Step                 { return api.Step{Kind: api.StepConfirm} }
func stage(b []byte) api.Step           { return api.Step{Kind: api.StepStage, Bytes: b} }
func start() api.Step                   { return api.Step{Kind: api.StepStart} }
func mount() api.Step                   { return api.Step{Kind: api.StepMount} }
func cut(n int, mask ...byte) api.Step  { return api.Step{Kind: api.StepCut, N: n, Bytes: mask} }
func restore() api.Step                 { return api.Step{Kind: api.StepRestore} }
func quote(nonce string) api.Step       { return api.Step{Kind: api.StepQuote, Bytes: []byte(nonce)} }

func times(n int, l ...api.Step) []api.Step { return slices.Repeat(l, n) }

// job is a right one, with that script.
func job(g api.Config, script ...api.Step) fleet.Job {
	return fleet.Job{Config: g, Secrets: secrets(3), Own: []byte("own"), Script: script}
}

// busy has every kind of step.
func busy() fleet.Job {
	return job(wide(), start(), stage(signed(0, 0, 1, 7, 7)), start(), confirm(), bump(0), bumpTo(1, 5), boot(signed(1, 1, 9)), confirm(), quote("n"), revoke(0), revoked(0), start(), read(1), api.Step{}, api.Step{Kind: 14}, mount(), stage(signed(1, 2, 11, 1, 2, 3)), start(), restore(), read(0), mount(), read(0), read(9), quote("m"))
}

// goes is a job in which the power goes so often.
func goes(n int) fleet.Job {
	var l []api.Step
	for i := range n {
		l = append(l, cut(i%2, byte(37*i)), bump(i%2), bump(i%2), restore(), mount(), read(0), read(1))
	}
	return job(unworn(), l...)
}

// dark is a job in which the power goes so often, at a key's fuse each time, and nobody asks what came of it.
func dark(n int) fleet.Job {
	g := chapter()
	g.Keys = max(n, 1)
	var l []api.Step
	for key := range n {
		l = append(l, cut(0, byte(key)), revoke(key), restore(), mount())
	}
	return job(g, l...)
}

// unworn is wide without wear.
func unworn() api.Config {
	g := wide()
	g.Erases = 65536
	return g
}

// waits is a job in which a cut waits so often, and the power never goes.
func waits(n int) fleet.Job {
	return job(wide(), times(n, cut(0, 0xff), read(0), cut(-1), bump(0))...)
}

// long has as many steps as there may be, which do acts.
func long() fleet.Job {
	return job(unworn(), times(mostScript/2, bump(0), bump(1))...)
}

// outcome is what becomes of a job, by the chapter's words.
func outcome(j fleet.Job) fleet.Outcome {
	l, e := drive.Run(j.Config, j.Secrets, j.Own, j.Script)
	is, _ := model.Explains(j.Config, j.Secrets, j.Script, l)
	return fleet.Outcome{E: e, Answers: l, Fits: e == api.OK && is}
}

func outcomes(jobs []fleet.Job) []fleet.Outcome {
	l := make([]fleet.Outcome, len(jobs))
	for i, j := range jobs {
		l[i] = outcome(j)
	}
	return l
}

func same(a, b fleet.Outcome) bool {
	return a.E == b.E && a.Fits == b.Fits && slices.Equal(a.Answers, b.Answers)
}

func told(x fleet.Outcome) string {
	return fmt.Sprintf("E %d, Fits %v, %d answers, the last of them %v", x.E, x.Fits, len(x.Answers), x.Answers[max(0, len(x.Answers)-3):])
}

// run is Run, which must be answered OK.
func run(t *testing.T, jobs []fleet.Job, workers int) []fleet.Outcome {
	t.Helper()
	l, e := fleet.Run(jobs, workers)
	if e != api.OK || len(l) != len(jobs) {
		t.Fatalf("Run of %d jobs by %d workers: %v, %d outcomes", len(jobs), workers, e, len(l))
	}
	return l
}

// are makes sure that outcomes are those.
func are(t *testing.T, got, want []fleet.Outcome) {
	t.Helper()
	if len(got) != len(want) {
		t.Fatalf("%d outcomes, want %d", len(got), len(want))
	}
	for i := range want {
		if !same(got[i], want[i]) {
			t.Fatalf("job %d of %d: %s; want %s", i, len(want), told(got[i]), told(want[i]))
		}
	}
}

// plays plays jobs by many numbers of workers, and makes sure that the outcomes are those.
func plays(t *testing.T, jobs []fleet.Job, want ...fleet.Outcome) {
	t.Helper()
	for _, workers := range []int{1, 2, 3, 7, 63, mostFleet} {
		are(t, run(t, jobs, workers), want)
	}
}

func row(r *rand.Rand, n int) []byte {
	b := make([]byte, n)
	r.Read(b)
	return b
}

func anyImage(r *rand.Rand, g api.Config) []byte {
	b := signed(r.Intn(g.Slots), r.Intn(3), r.Int63n(12), row(r, r.Intn(60))...)
	switch r.Intn(8) {
	case 0:
		b[r.Intn(len(b))] ^= 1 << r.Intn(8)
	case 1:
		return b[:r.Intn(len(b))]
	}
	return b
}

func anyStep(r *rand.Rand, g api.Config) api.Step {
	slot, key := r.Intn(g.Slots+2)-1, r.Intn(g.Keys+2)-1
	l := []api.Step{
		read(slot), bump(slot), bump(slot), bumpTo(slot, r.Int63n(14)-1), revoked(key), boot(anyImage(r, g)), confirm(), stage(anyImage(r, g)), start(), quote(string(row(r, r.Intn(20)))),
		mount(), mount(), restore(), cut(r.Intn(5), row(r, r.Intn(33))...), cut(r.Intn(5), 0xff),
	}
	if r.Intn(30) == 0 {
		return revoke(key)
	}
	if r.Intn(30) == 0 {
		return api.Step{Kind: r.Intn(20) - 3, N: key}
	}
	return l[r.Intn(len(l))]
}

// anyJob is a job of up to so many steps; one of eight may not be.
func anyJob(r *rand.Rand, most int) fleet.Job {
	g := configs()[r.Intn(len(configs()))]
	j := job(g)
	for range r.Intn(most) {
		j.Script = append(j.Script, anyStep(r, g))
	}
	if r.Intn(8) == 0 {
		l := refusals()
		j = l[r.Intn(len(l))].change(j)
	}
	return j
}

func anyJobs(r *rand.Rand, n, most int) []fleet.Job {
	var l []fleet.Job
	for range n {
		l = append(l, anyJob(r, most))
	}
	return l
}

// refusal makes a job that drive refuses of one that it plays, and tells how.
type refusal struct {
	name   string
	change func(j fleet.Job) fleet.Job
	want   api.Errno
}

func refusals() []refusal {
	with := func(change func(j *fleet.Job)) func(j fleet.Job) fleet.Job {
		return func(j fleet.Job) fleet.Job {
			change(&j)
			return j
		}
	}
	long := func(j *fleet.Job) { j.Script = times(mostScript+1, read(0)) }
	return []refusal{
		{"no config", with(func(j *fleet.Job) { j.Config = api.Config{} }), api.ErrArg},
		{"too few cells", with(func(j *fleet.Job) { j.Config.Cells = j.Config.Slots + 2 }), api.ErrArg},
		{"too many slots", with(func(j *fleet.Job) { j.Config.Slots = 9 }), api.ErrArg},
		{"less than no area", with(func(j *fleet.Job) { j.Config.Area = -1 }), api.ErrArg},
		{"65 secrets", with(func(j *fleet.Job) { j.Secrets = secrets(mostKeys + 1) }), api.ErrMany},
		{"a secret of the key 64", with(func(j *fleet.Job) { j.Secrets = []api.Secret{{Key: mostKeys, Bytes: secretOf(0)}} }), api.ErrRange},
		{"a secret of the key -1", with(func(j *fleet.Job) { j.Secrets = []api.Secret{{Key: -1, Bytes: secretOf(0)}} }), api.ErrRange},
		{"a secret without bytes", with(func(j *fleet.Job) { j.Secrets = append(secrets(2), api.Secret{Key: 2}) }), api.ErrBytes},
		{"a secret of 257 bytes", with(func(j *fleet.Job) { j.Secrets = []api.Secret{{Bytes: make([]byte, mostSecret+1)}} }), api.ErrBytes},
		{"a key twice", with(func(j *fleet.Job) { j.Secrets = append(secrets(2), secrets(1)...) }), api.ErrTwice},
		{"no secret of its own", with(func(j *fleet.Job) { j.Own = nil }), api.ErrBytes},
		{"no steps, and no secret of its own", with(func(j *fleet.Job) { j.Own, j.Script = []byte{}, nil }), api.ErrBytes},
		{"an own secret of 257 bytes", with(func(j *fleet.Job) { j.Own = make([]byte, mostSecret+1) }), api.ErrBytes},
		{"1025 steps", with(long), api.ErrMany},
		{"1025 steps, and no secret of its own", with(func(j *fleet.Job) { long(j); j.Own = nil }), api.ErrBytes},
		{"no secret of its own, and a key twice", with(func(j *fleet.Job) { j.Own, j.Secrets = nil, append(secrets(1), secrets(1)...) }), api.ErrTwice},
		{"all of it", with(func(j *fleet.Job) { long(j); j.Own, j.Secrets, j.Config = nil, secrets(65), api.Config{} }), api.ErrArg},
	}
}
