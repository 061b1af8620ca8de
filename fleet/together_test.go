package fleet_test

import (
	"math/rand"
	"runtime"
	"strings"
	"sync"
	"sync/atomic"
	"testing"
	"time"

	"portcullis/api"
	"portcullis/fleet"
)

// stacks tells what all goroutines are at.
func stacks() string {
	b := make([]byte, 1<<20)
	return string(b[:runtime.Stack(b, true)])
}

// atWork tells how many goroutines are there that fleet started. They are counted in their stacks, for which the world is stopped: runtime.NumGoroutine adds up what others change meanwhile, and sees some that were never there.
func atWork() int { return strings.Count(stacks(), "\ncreated by portcullis/fleet.") }

// settled waits until none of them is there: one that is through with its work may take a moment to be gone.
func settled() bool {
	for range 10000 {
		if atWork() == 0 {
			return true
		}
		time.Sleep(time.Millisecond)
	}
	return false
}

// watched tells the most that were seen at work at one time while something was done.
func watched(do func()) (most int) {
	var over atomic.Bool
	var watch sync.WaitGroup
	watch.Add(1)
	go func() {
		defer watch.Done()
		for !over.Load() {
			most = max(most, atWork())
			time.Sleep(100 * time.Microsecond)
		}
	}()
	do()
	over.Store(true)
	watch.Wait()
	return most
}

// When Run has answered, all that it started has ended: nobody plays any more, and nobody waits.
func TestAllEnded(t *testing.T) {
	jobs := []fleet.Job{long(), {}, busy(), long(), goes(mostCuts), job(chapter()), long()}
	for workers := 1; workers <= mostFleet; workers++ {
		run(t, jobs, workers)
		l := stacks()
		for _, name := range []string{"portcullis/drive.", "portcullis/model."} {
			if strings.Contains(l, name) {
				t.Fatalf("%d workers: one of them is still at play:\n%s", workers, l)
			}
		}
		if !settled() {
			t.Fatalf("%d workers: they stay:\n%s", workers, stacks())
		}
	}
}

// With an error nothing is left behind either.
func TestEndedWithError(t *testing.T) {
	for range 50 {
		fleet.Run(make([]fleet.Job, 65), 64)
		fleet.Run(make([]fleet.Job, 65), 65)
		fleet.Run(nil, 64)
	}
	if !settled() {
		t.Errorf("they stay:\n%s", stacks())
	}
}

// There are no more workers than Run was told.
func TestSoManyWorkers(t *testing.T) {
	jobs := make([]fleet.Job, 16)
	for i := range jobs {
		jobs[i] = long()
	}
	for _, workers := range []int{1, 2, 5} {
		if !settled() {
			t.Fatalf("some were there before:\n%s", stacks())
		}
		if most := watched(func() { run(t, jobs, workers) }); most > workers {
			t.Errorf("%d at work, want %d at most", most, workers)
		}
	}
}

// P22.1, R4: several Runs at one time, of the same jobs and of others, answer as each does alone, and twice alike.
func TestAtOneTime(t *testing.T) {
	r := rand.New(rand.NewSource(6))
	var jobs [3][]fleet.Job
	var want [3][]fleet.Outcome
	for i := range jobs {
		jobs[i] = append(anyJobs(r, 20, 40), busy(), goes(mostCuts+1), long())
		want[i] = outcomes(jobs[i])
	}
	var got [12][2][]fleet.Outcome
	var wait sync.WaitGroup
	for n := range got {
		wait.Add(1)
		go func() {
			defer wait.Done()
			for k := range got[n] {
				got[n][k], _ = fleet.Run(jobs[n%3], 1+5*n)
			}
		}()
	}
	wait.Wait()
	for n := range got {
		for _, l := range got[n] {
			are(t, l, want[n%3])
		}
	}
}

// R4: the same call has the same answer, behind others and behind such as are refused.
func TestTwice(t *testing.T) {
	r := rand.New(rand.NewSource(7))
	jobs := append(anyJobs(r, 30, 40), busy())
	want := run(t, jobs, 5)
	for range 10 {
		run(t, anyJobs(r, 20, 20), 3)
		if l, e := fleet.Run(jobs, 65); e != api.ErrArg || len(l) != 0 {
			t.Fatalf("%v, %d outcomes", e, len(l))
		}
		are(t, run(t, jobs, 5), want)
	}
}

// P22.1: jobs whose lists are one memory are played as others are, by all workers at one time.
func TestSharedLists(t *testing.T) {
	script := append(busy().Script, goes(5).Script...)
	jobs := make([]fleet.Job, mostFleet)
	for i := range jobs {
		jobs[i] = job(wide(), script[:i]...)
		jobs[i].Secrets, jobs[i].Own = jobs[0].Secrets, script[1].Bytes[:4]
	}
	plays(t, jobs, outcomes(jobs)...)
}
