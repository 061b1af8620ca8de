package fleet_test

import (
	"math"
	"math/rand"
	"slices"
	"testing"

	"portcullis/api"
	"portcullis/fleet"
)

// bumped is what becomes of a Bump on a blank chip.
func bumped() fleet.Outcome {
	return fleet.Outcome{Answers: []api.Answer{{V: 1, Acts: 2}}, Fits: true}
}

// The chapter's examples.
func TestExamples(t *testing.T) {
	one := job(chapter(), bump(0))
	for _, x := range []struct {
		name    string
		jobs    []fleet.Job
		workers int
		want    []fleet.Outcome
		e       api.Errno
		counts  []fleet.Count
	}{
		{"no jobs", nil, 1, nil, api.OK, nil},
		{"no workers", nil, 0, nil, api.ErrArg, nil},
		{"65 workers", nil, 65, nil, api.ErrArg, nil},
		{"65 jobs", make([]fleet.Job, 65), 1, nil, api.ErrMany, nil},
		{"two jobs", []fleet.Job{{}, one}, 2, []fleet.Outcome{{E: api.ErrArg}, bumped()}, api.OK, []fleet.Count{{E: 0, Last: 0, Acts: 2, N: 1}, {E: 1, Last: 0, Acts: 0, N: 1}}},
	} {
		t.Run(x.name, func(t *testing.T) {
			l, e := fleet.Run(x.jobs, x.workers)
			if e != x.e {
				t.Fatalf("%v, want %v", e, x.e)
			}
			are(t, l, x.want)
			if counts := fleet.Census(l); !slices.Equal(counts, x.counts) {
				t.Errorf("Census: %v, want %v", counts, x.counts)
			}
		})
	}
}

// What Run answers, by the number of workers and that of jobs: ErrArg first, and with an error no outcomes.
func TestBounds(t *testing.T) {
	one := job(chapter(), bump(0))
	for _, workers := range []int{math.MinInt, -1 << 32, -64, -1, 0, 1, 2, 3, 63, 64, 65, 66, 128, 1<<32 + 1, math.MaxInt} {
		for _, n := range []int{0, 1, 2, 3, 62, 63, 64, 65, 66, 1000} {
			want := api.OK
			switch {
			case workers < 1 || workers > 64:
				want = api.ErrArg
			case n > 64:
				want = api.ErrMany
			}
			l, e := fleet.Run(slices.Repeat([]fleet.Job{one}, n), workers)
			if e != want {
				t.Fatalf("%d jobs by %d workers: %v, want %v", n, workers, e, want)
			}
			if want != api.OK {
				n = 0
			}
			are(t, l, slices.Repeat([]fleet.Outcome{bumped()}, n))
		}
	}
}

// No jobs are none, whether the list is there or not.
func TestNoJobs(t *testing.T) {
	spare := []fleet.Job{busy(), busy()}
	for _, l := range [][]fleet.Job{nil, {}, spare[:0]} {
		plays(t, l)
	}
}

// The numbers of jobs and workers, each of the first held against each of the second: fewer jobs than workers, as many, more.
func TestJobsAndWorkers(t *testing.T) {
	jobs := anyJobs(rand.New(rand.NewSource(1)), mostFleet, 25)
	want := outcomes(jobs)
	for _, n := range []int{1, 2, 3, 4, 5, 7, 8, 31, 32, 33, 63, 64} {
		for _, workers := range []int{1, 2, 3, 4, 5, 7, 8, 31, 32, 33, 63, 64} {
			are(t, run(t, jobs[:n], workers), want[:n])
		}
	}
}

// A job that drive refuses: its error, no answers, not Fits; alone, first, last, and between right ones, which play on.
func TestRefused(t *testing.T) {
	right := busy()
	played := outcome(right)
	for _, x := range refusals() {
		t.Run(x.name, func(t *testing.T) {
			j, no := x.change(right), fleet.Outcome{E: x.want}
			plays(t, []fleet.Job{j}, no)
			plays(t, []fleet.Job{j, right, right}, no, played, played)
			plays(t, []fleet.Job{right, right, j}, played, played, no)
			plays(t, []fleet.Job{right, j, right}, played, no, played)
			plays(t, []fleet.Job{j, right, j, j}, no, played, no, no)
		})
	}
}

// All jobs refused, each in another way.
func TestAllRefused(t *testing.T) {
	var jobs []fleet.Job
	var want []fleet.Outcome
	for _, x := range refusals() {
		jobs = append(jobs, x.change(busy()))
		want = append(want, fleet.Outcome{E: x.want})
	}
	plays(t, jobs, want...)
}

// What is at its edge, and may be: it is played.
func TestEdgesTaken(t *testing.T) {
	most := job(chapter(), times(mostScript, read(0))...)
	most.Secrets = secrets(mostKeys)
	most.Secrets[63].Bytes = make([]byte, mostSecret)
	most.Own = make([]byte, mostSecret)
	bare := fleet.Job{Config: chapter(), Own: []byte{0}, Script: []api.Step{bump(0)}}
	plays(t, []fleet.Job{most, bare}, fleet.Outcome{Answers: make([]api.Answer, mostScript), Fits: true}, bumped())
}

// Jobs without steps: there is nothing that would not fit.
func TestNoSteps(t *testing.T) {
	fine := fleet.Outcome{Fits: true}
	for _, script := range [][]api.Step{nil, {}, times(3, bump(0))[:0]} {
		j := job(chapter(), script...)
		plays(t, []fleet.Job{j}, fine)
		plays(t, []fleet.Job{j, {}, j, job(chapter(), bump(0)), j}, fine, fleet.Outcome{E: api.ErrArg}, fine, bumped(), fine)
	}
}

// A step that is answered an error is no job that is refused.
func TestStepErrors(t *testing.T) {
	j := job(chapter(), read(1), bumpTo(0, 9), api.Step{}, confirm(), restore(), read(0))
	want := []api.Answer{{E: api.ErrRange}, {E: api.ErrSaturated}, {E: api.ErrKind}, {E: api.ErrState}, {}, {E: api.ErrState}}
	plays(t, []fleet.Job{j}, fleet.Outcome{Answers: want, Fits: true})
}

// Power cuts, as the example 2 of chapter 18 has them.
func TestCut(t *testing.T) {
	j := job(chapter(), cut(1), bump(0), read(0), restore(), read(0), mount(), read(0), bump(0))
	want := []api.Answer{{}, {E: api.ErrPower, Acts: 2}, {E: api.ErrPower, Acts: 2}, {Acts: 2}, {E: api.ErrState, Acts: 2}, {Acts: 2}, {Acts: 2}, {E: api.ErrWorn, Acts: 2}}
	plays(t, []fleet.Job{j, j}, fleet.Outcome{Answers: want, Fits: true}, fleet.Outcome{Answers: want, Fits: true})
}

// Fits is as the model tells it: the power may go 12 times; once more is not explained, and the answers are there all the same.
func TestMostCuts(t *testing.T) {
	for _, x := range []struct {
		job  fleet.Job
		fits bool
	}{
		{goes(0), true}, {goes(1), true}, {goes(2), true}, {goes(mostCuts - 1), true}, {goes(mostCuts), true},
		{goes(mostCuts + 1), false}, {goes(mostCuts + 2), false}, {goes(30), false},
		{dark(mostCuts), true}, {dark(mostCuts + 1), false},
		{waits(mostCuts), true}, {waits(mostCuts + 1), true}, {waits(100), true},
	} {
		want := outcome(x.job)
		if want.E != api.OK || want.Fits != x.fits || len(want.Answers) != len(x.job.Script) {
			t.Fatalf("drive and model: %s; want Fits %v", told(want), x.fits)
		}
		plays(t, []fleet.Job{x.job}, want)
		plays(t, []fleet.Job{busy(), x.job, goes(mostCuts + 1), goes(mostCuts)}, outcome(busy()), want, outcome(goes(mostCuts+1)), outcome(goes(mostCuts)))
	}
}

// P22.1: E and Answers are those of drive.Run, and Fits is what the model tells of them, of whatever jobs, by every number of workers from 1 to 64.
func TestEveryNumberOfWorkers(t *testing.T) {
	r := rand.New(rand.NewSource(2))
	jobs := append(anyJobs(r, 59, 60), busy(), goes(mostCuts), goes(mostCuts+1), job(wide()), long())
	r.Shuffle(len(jobs), func(i, k int) { jobs[i], jobs[k] = jobs[k], jobs[i] })
	want := outcomes(jobs)
	various(t, want)
	for workers := 1; workers <= mostFleet; workers++ {
		are(t, run(t, jobs, workers), want)
	}
}

// various makes sure that outcomes are of all kinds, and that hardly one is like another one: else it would not be seen whether they lie at their places.
func various(t *testing.T, l []fleet.Outcome) {
	t.Helper()
	fits, refused, apart := 0, 0, 0
	for i, x := range l {
		if x.Fits {
			fits++
		}
		if x.E != api.OK {
			refused++
		}
		if !slices.ContainsFunc(l[:i], func(y fleet.Outcome) bool { return same(x, y) }) {
			apart++
		}
	}
	if fits < len(l)/2 || refused < 3 || fits+refused == len(l) || apart < len(l)*3/4 {
		t.Fatalf("%d outcomes: %d fit, %d were refused, %d are unlike", len(l), fits, refused, apart)
	}
}

// P22.1: jobs of very unlike length, the long ones first, last, between, and all on one worker's turn: the outcomes are in the jobs' order.
func TestUnlikeLengths(t *testing.T) {
	most, few := long(), job(chapter(), bump(0), read(0))
	for _, places := range [][]int{{0}, {15}, {7, 8}, {0, 4, 8, 12}, {0, 1, 2, 3}, {12, 13, 14, 15}} {
		jobs := make([]fleet.Job, 16)
		for i := range jobs {
			jobs[i] = few
			jobs[i].Script = slices.Concat(few.Script, times(i, bump(0)))
		}
		for _, p := range places {
			jobs[p] = most
			jobs[p].Script = most.Script[p:]
		}
		plays(t, jobs, outcomes(jobs)...)
	}
}

// P22.1: whatever jobs, many times.
func TestManyTimes(t *testing.T) {
	r := rand.New(rand.NewSource(3))
	for range 40 {
		jobs := anyJobs(r, r.Intn(mostFleet+1), 40)
		want := outcomes(jobs)
		for range 3 {
			are(t, run(t, jobs, 1+r.Intn(mostFleet)), want)
		}
	}
}

// P22.2: a job's outcome is the same alone and beside any others, at any place among them.
func TestEachByItself(t *testing.T) {
	r := rand.New(rand.NewSource(4))
	for _, j := range []fleet.Job{{}, job(chapter(), bump(0)), job(wide()), busy(), goes(mostCuts), goes(mostCuts + 1), anyJob(r, 60)} {
		alone := run(t, []fleet.Job{j}, 1)[0]
		if !same(alone, outcome(j)) {
			t.Fatalf("alone: %s; want %s", told(alone), told(outcome(j)))
		}
		for place := range mostFleet {
			jobs := anyJobs(r, mostFleet, 12)
			jobs[place] = j
			if got := run(t, jobs, 1+r.Intn(mostFleet))[place]; !same(got, alone) {
				t.Fatalf("at the place %d: %s; alone %s", place, told(got), told(alone))
			}
		}
	}
}

// P22.2: whatever the others are changed to, a job's outcome stays; one that is changed itself has another one.
func TestOthersChanged(t *testing.T) {
	jobs := slices.Repeat([]fleet.Job{goes(3)}, 8)
	want := outcomes(jobs)
	for i := range jobs {
		l, w := slices.Clone(jobs), slices.Clone(want)
		l[i] = busy()
		w[i] = outcome(busy())
		plays(t, l, w...)
	}
}

// P22.2: jobs in another order have their outcomes in that order.
func TestAnotherOrder(t *testing.T) {
	r := rand.New(rand.NewSource(5))
	jobs := anyJobs(r, mostFleet, 30)
	want := outcomes(jobs)
	for range 20 {
		r.Shuffle(len(jobs), func(i, k int) {
			jobs[i], jobs[k] = jobs[k], jobs[i]
			want[i], want[k] = want[k], want[i]
		})
		are(t, run(t, jobs, 1+r.Intn(mostFleet)), want)
	}
}
