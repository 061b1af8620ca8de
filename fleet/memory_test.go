package fleet_test

import (
	"math/rand"
	"reflect"
	"slices"
	"testing"

	"portcullis/api"
	"portcullis/fleet"
)

// roomy is a list with spare room behind it, in which something lies.
func roomy[T any](l []T, spare ...T) []T {
	return append(append(make([]T, 0, len(l)+len(spare)), l...), spare...)[:len(l)]
}

// roomyJob is the same job, each of whose lists has spare room; what lies there would be seen, if it were played.
func roomyJob(j fleet.Job) fleet.Job {
	j.Secrets = roomy(j.Secrets, api.Secret{Key: 60, Bytes: []byte{6}}, api.Secret{Key: -1})
	for i, s := range j.Secrets {
		j.Secrets[i].Bytes = roomy(s.Bytes, 0xa5, 0xa6, 0xa7)
	}
	j.Own = roomy(j.Own, 0x5a, 0x5b)
	j.Script = roomy(j.Script, bump(0), api.Step{Kind: 77, Bytes: []byte{7, 7}})
	for i, s := range j.Script {
		j.Script[i].Bytes = roomy(s.Bytes, 0xb1, 0xb2, 0xb3, 0xb4)
	}
	return j
}

func roomyJobs(l []fleet.Job) []fleet.Job {
	all := roomy(l, busy(), fleet.Job{Own: []byte("spare")})
	for i := range l {
		all[i] = roomyJob(l[i])
	}
	return all
}

// stretched is a copy of a list with its spare room.
func stretched[T any](l []T) []T { return slices.Clone(l[:cap(l)]) }

// kept is a copy of jobs with all spare room.
func kept(l []fleet.Job) []fleet.Job {
	all := stretched(l)
	for i := range all {
		j := &all[i]
		j.Own, j.Secrets, j.Script = stretched(j.Own), stretched(j.Secrets), stretched(j.Script)
		for k := range j.Secrets {
			j.Secrets[k].Bytes = stretched(j.Secrets[k].Bytes)
		}
		for k := range j.Script {
			j.Script[k].Bytes = stretched(j.Script[k].Bytes)
		}
	}
	return all
}

// scribble writes over all bytes and lists of jobs, spare room too.
func scribble(l []fleet.Job) {
	for _, j := range l {
		for _, s := range j.Secrets {
			fill(s.Bytes, 0xc3)
		}
		for _, s := range j.Script {
			fill(s.Bytes, 0xc4)
		}
		fill(j.Own, 0xc5)
		fill(j.Secrets, api.Secret{Key: 1, Bytes: []byte{1}})
		fill(j.Script, bump(1))
	}
	fill(l, fleet.Job{Own: []byte{9}})
}

func fill[T any](l []T, x T) {
	for i := range l[:cap(l)] {
		l[:cap(l)][i] = x
	}
}

// mixed are jobs of all kinds, with spare room.
func mixed(r *rand.Rand) []fleet.Job {
	l := append(anyJobs(r, 20, 30), busy(), goes(mostCuts), goes(mostCuts+1), job(wide()))
	for _, x := range refusals() {
		l = append(l, x.change(busy()))
	}
	return roomyJobs(l)
}

// P22.3: jobs, secrets, own bytes and scripts stay as they were, spare room too, whether they are played or refused.
func TestRunUnchanged(t *testing.T) {
	jobs := mixed(rand.New(rand.NewSource(12)))
	was := kept(jobs)
	for _, workers := range []int{1, 3, 64, 0, 65} {
		fleet.Run(jobs, workers)
		if !reflect.DeepEqual(kept(jobs), was) {
			t.Fatalf("%d workers: a job has changed", workers)
		}
	}
	many := roomyJobs(slices.Repeat([]fleet.Job{busy()}, 65))
	was = kept(many)
	fleet.Run(many, 2)
	if !reflect.DeepEqual(kept(many), was) {
		t.Error("a job has changed, one of too many")
	}
}

// P22.3: what lies in spare room is not looked at.
func TestSpareRoomUnseen(t *testing.T) {
	r := rand.New(rand.NewSource(13))
	jobs := append(anyJobs(r, 30, 30), busy(), job(chapter()))
	plays(t, roomyJobs(jobs), outcomes(jobs)...)
	l := anyOutcomes(r, 50)
	for i := range l {
		l[i].Answers = roomy(l[i].Answers, api.Answer{E: 77, Acts: 77})
	}
	if got := fleet.Census(l[:20]); !slices.Equal(got, counted(l[:20])) {
		t.Errorf("%v, want %v", got, counted(l[:20]))
	}
}

// P22.3: nothing that was handed in is kept, and no outcome is a part of it: all of it is written over, and the outcomes stay; and the jobs are played anew as what they are then.
func TestRunKeepsNothing(t *testing.T) {
	jobs := mixed(rand.New(rand.NewSource(14)))
	want := outcomes(jobs)
	for _, workers := range []int{1, 5, 64} {
		mine := roomyJobs(jobs)
		got := run(t, mine, workers)
		scribble(mine)
		are(t, got, want)
		are(t, run(t, mine, workers), outcomes(mine))
	}
}

// P22.3: an answer is its owner's: it is written over, and the arguments stay.
func TestRunAnswerApart(t *testing.T) {
	jobs := mixed(rand.New(rand.NewSource(15)))
	was, want := kept(jobs), outcomes(jobs)
	first, second := run(t, jobs, 4), run(t, jobs, 4)
	for i := range first {
		fill(first[i].Answers, api.Answer{E: 99, V: 99, Acts: 99})
		_ = append(first[i].Answers, api.Answer{E: 98})
	}
	fill(first, fleet.Outcome{E: 97})
	_ = append(first, fleet.Outcome{E: 96})
	if !reflect.DeepEqual(kept(jobs), was) {
		t.Error("an answer is a part of a job")
	}
	are(t, second, want)
	are(t, run(t, jobs, 4), want)
}

// P22.3: no two lists of one answer share memory: each is written over and appended to by itself. Jobs that are alike, and such as are one in memory, are no exception.
func TestRunListsApart(t *testing.T) {
	one := busy()
	jobs := []fleet.Job{one, one, busy(), goes(2), goes(2), job(wide()), job(wide()), {}, long(), one}
	for _, workers := range []int{1, 2, 3, 64} {
		got, want := run(t, jobs, workers), outcomes(jobs)
		for i := range got {
			mine := got[i].Answers
			_ = append(mine, api.Answer{E: 91}, api.Answer{E: 92}, api.Answer{E: 93})
			are(t, got, want)
			fill(mine, api.Answer{E: 94, V: int64(i)})
			fill(want[i].Answers, api.Answer{E: 94, V: int64(i)})
			are(t, got, want)
		}
		_ = append(got, fleet.Outcome{E: 95}, fleet.Outcome{E: 96})
		are(t, got, want)
	}
}

// P22.3: Census leaves outcomes as they were, spare room too, and in their order; what it tells is no part of them, and none of another answer.
func TestCensusMemory(t *testing.T) {
	r := rand.New(rand.NewSource(16))
	l := roomy(anyOutcomes(r, 100), ended(1, 1, 1), ended(0, 0, 0))
	for i := range l {
		l[i].Answers = roomy(l[i].Answers, api.Answer{E: 77, Acts: 7}, api.Answer{V: 1})
	}
	keep := func() []fleet.Outcome {
		all := stretched(l)
		for i := range all {
			all[i].Answers = stretched(all[i].Answers)
		}
		return all
	}
	was, want := keep(), counted(l)
	first, second := fleet.Census(l), fleet.Census(l)
	_ = append(first, fleet.Count{N: -1}, fleet.Count{N: -2})
	fill(first, fleet.Count{E: 99, N: 99})
	if !reflect.DeepEqual(keep(), was) {
		t.Error("an outcome has changed")
	}
	for i := range l {
		fill(l[i].Answers, api.Answer{E: 55})
	}
	fill(l, fleet.Outcome{E: 56})
	if !slices.Equal(second, want) {
		t.Errorf("%v, want %v", second, want)
	}
	if got := fleet.Census(l); !slices.Equal(got, []fleet.Count{{E: 56, N: 100}}) {
		t.Errorf("%v: outcomes were kept", got)
	}
}
