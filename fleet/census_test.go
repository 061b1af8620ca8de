package fleet_test

import (
	"math"
	"math/rand"
	"slices"
	"sync"
	"testing"

	"portcullis/api"
	"portcullis/fleet"
)

// ended is an outcome with that error and that last answer, and others ahead of it.
func ended(e, last api.Errno, acts int, ahead ...api.Answer) fleet.Outcome {
	return fleet.Outcome{E: e, Answers: append(ahead, api.Answer{E: last, Acts: acts})}
}

// counted is what Census is to tell, by the chapter's words, without a map: each outcome is put where it belongs among the counts.
func counted(l []fleet.Outcome) []fleet.Count {
	var counts []fleet.Count
	for _, x := range l {
		c := fleet.Count{E: x.E, N: 1}
		if n := len(x.Answers); n > 0 {
			c.Last, c.Acts = x.Answers[n-1].E, x.Answers[n-1].Acts
		}
		at := 0
		for at < len(counts) && less(counts[at], c) {
			at++
		}
		if at < len(counts) && !less(c, counts[at]) {
			counts[at].N++
		} else {
			counts = slices.Insert(counts, at, c)
		}
	}
	return counts
}

func less(a, b fleet.Count) bool {
	if a.E != b.E {
		return a.E < b.E
	}
	if a.Last != b.Last {
		return a.Last < b.Last
	}
	return a.Acts < b.Acts
}

func TestCensus(t *testing.T) {
	busier := ended(0, 0, 2, api.Answer{E: api.ErrWorn, Acts: 1})
	fits := ended(0, 0, 2)
	fits.Fits = true
	unlike := fleet.Outcome{Answers: []api.Answer{{V: 9, Is: true, Hash: api.Hash{1}, Acts: 2}}}
	for _, x := range []struct {
		name string
		l    []fleet.Outcome
		want []fleet.Count
	}{
		{"nil", nil, nil},
		{"none", []fleet.Outcome{}, nil},
		{"none, with room", make([]fleet.Outcome, 4)[:0], nil},
		{"one", []fleet.Outcome{ended(0, 8, 5)}, []fleet.Count{{0, 8, 5, 1}}},
		{"one without answers", []fleet.Outcome{{E: 3}}, []fleet.Count{{3, 0, 0, 1}}},
		{"a zero one", []fleet.Outcome{{}}, []fleet.Count{{0, 0, 0, 1}}},
		{"answers that are nil, and none", []fleet.Outcome{{E: 1}, {E: 1, Answers: []api.Answer{}}, {E: 1, Answers: []api.Answer{{E: 8, Acts: 9}}[:0]}}, []fleet.Count{{1, 0, 0, 3}}},
		{"no answers, and a last one of zeros", []fleet.Outcome{{}, ended(0, 0, 0)}, []fleet.Count{{0, 0, 0, 2}}},
		{"two alike", []fleet.Outcome{ended(0, 0, 2), ended(0, 0, 2)}, []fleet.Count{{0, 0, 2, 2}}},
		{"E alone differs", []fleet.Outcome{ended(1, 8, 5), ended(0, 8, 5)}, []fleet.Count{{0, 8, 5, 1}, {1, 8, 5, 1}}},
		{"Last alone differs", []fleet.Outcome{ended(0, 9, 5), ended(0, 8, 5)}, []fleet.Count{{0, 8, 5, 1}, {0, 9, 5, 1}}},
		{"Acts alone differs", []fleet.Outcome{ended(0, 8, 6), ended(0, 8, 5)}, []fleet.Count{{0, 8, 5, 1}, {0, 8, 6, 1}}},
		{"E goes first", []fleet.Outcome{ended(1, 0, 0), ended(0, 9, 9)}, []fleet.Count{{0, 9, 9, 1}, {1, 0, 0, 1}}},
		{"then Last", []fleet.Outcome{ended(1, 2, 0), ended(1, 1, 9)}, []fleet.Count{{1, 1, 9, 1}, {1, 2, 0, 1}}},
		{"not by their number", []fleet.Outcome{ended(0, 0, 3), ended(0, 0, 3), ended(0, 0, 2)}, []fleet.Count{{0, 0, 2, 1}, {0, 0, 3, 2}}},
		{"numbers, not digits", []fleet.Outcome{ended(0, 0, 10), ended(0, 0, 9), ended(10, 0, 0), ended(9, 0, 0)}, []fleet.Count{{0, 0, 9, 1}, {0, 0, 10, 1}, {9, 0, 0, 1}, {10, 0, 0, 1}}},
		{"the last answer alone counts", []fleet.Outcome{ended(0, 0, 2), busier}, []fleet.Count{{0, 0, 2, 2}}},
		{"Fits does not count", []fleet.Outcome{ended(0, 0, 2), fits}, []fleet.Count{{0, 0, 2, 2}}},
		{"V, Is and Hash do not", []fleet.Outcome{ended(0, 0, 2), unlike}, []fleet.Count{{0, 0, 2, 2}}},
		{"an error beside answers", []fleet.Outcome{ended(1, 8, 7), {E: 1}}, []fleet.Count{{1, 0, 0, 1}, {1, 8, 7, 1}}},
		{"E and Last in each other's place", []fleet.Outcome{ended(8, 1, 0), ended(1, 8, 0)}, []fleet.Count{{1, 8, 0, 1}, {8, 1, 0, 1}}},
		{"Last and Acts in each other's place", []fleet.Outcome{ended(0, 8, 1), ended(0, 1, 8)}, []fleet.Count{{0, 1, 8, 1}, {0, 8, 1, 1}}},
		{"numbers that are none of an error", []fleet.Outcome{ended(20, 0, 0), ended(-1, 0, 0), ended(math.MaxInt, 0, 0), ended(0, 0, 0), ended(math.MinInt, 0, 0)}, []fleet.Count{{math.MinInt, 0, 0, 1}, {-1, 0, 0, 1}, {0, 0, 0, 1}, {20, 0, 0, 1}, {math.MaxInt, 0, 0, 1}}},
		{"of Last too", []fleet.Outcome{ended(0, math.MaxInt, 0), ended(0, -1, 0), ended(0, math.MinInt, 0)}, []fleet.Count{{0, math.MinInt, 0, 1}, {0, -1, 0, 1}, {0, math.MaxInt, 0, 1}}},
		{"of Acts too", []fleet.Outcome{ended(0, 0, math.MaxInt), ended(0, 0, -2), ended(0, 0, math.MinInt)}, []fleet.Count{{0, 0, math.MinInt, 1}, {0, 0, -2, 1}, {0, 0, math.MaxInt, 1}}},
		{"far apart, by 2^32", []fleet.Outcome{ended(1<<32, 0, 0), ended(0, 1<<32, 0), ended(0, 0, 1<<32), ended(0, 0, 0)}, []fleet.Count{{0, 0, 0, 1}, {0, 0, 1 << 32, 1}, {0, 1 << 32, 0, 1}, {1 << 32, 0, 0, 1}}},
	} {
		t.Run(x.name, func(t *testing.T) {
			if got := fleet.Census(x.l); !slices.Equal(got, x.want) {
				t.Errorf("%v, want %v", got, x.want)
			}
		})
	}
}

// anyOutcomes are such as are alike in many of their numbers, all of them among the edges of theirs.
func anyOutcomes(r *rand.Rand, n int) []fleet.Outcome {
	numbers := []int{math.MinInt, math.MinInt + 1, -1 << 32, -20, -1, 0, 0, 0, 1, 2, 8, 19, 1 << 32, math.MaxInt - 1, math.MaxInt}
	one := func() int { return numbers[r.Intn(len(numbers))] }
	var l []fleet.Outcome
	for range n {
		x := fleet.Outcome{E: api.Errno(one()), Fits: r.Intn(2) == 0}
		for range r.Intn(4) {
			x.Answers = append(x.Answers, api.Answer{E: api.Errno(one()), V: r.Int63(), Acts: one()})
		}
		l = append(l, x)
	}
	return l
}

// Counts are by rising E, Last, Acts, each once; their N add up to the number of outcomes, of which there may be more than a fleet has.
func TestCensusOfAny(t *testing.T) {
	r := rand.New(rand.NewSource(8))
	for _, n := range []int{1, 2, 3, 10, 64, 65, 200, 5000} {
		for range 20 {
			l := anyOutcomes(r, n)
			got := fleet.Census(l)
			if !slices.Equal(got, counted(l)) {
				t.Fatalf("%d outcomes: %v, want %v", n, got, counted(l))
			}
			all := 0
			for i, c := range got {
				all += c.N
				if c.N < 1 || i > 0 && !less(got[i-1], c) {
					t.Fatalf("%d outcomes: %v behind %v", n, c, got[:i])
				}
			}
			if all != n {
				t.Fatalf("%d outcomes are counted as %d", n, all)
			}
		}
	}
}

// The order of outcomes does not count; nor do maps, which are gone through in another order each time.
func TestCensusOrder(t *testing.T) {
	r := rand.New(rand.NewSource(9))
	l := anyOutcomes(r, 300)
	want := counted(l)
	for range 100 {
		if got := fleet.Census(l); !slices.Equal(got, want) {
			t.Fatalf("%v, want %v", got, want)
		}
		r.Shuffle(len(l), func(i, k int) { l[i], l[k] = l[k], l[i] })
	}
}

// Census of what Run tells, by whatever number of workers.
func TestCensusOfRun(t *testing.T) {
	r := rand.New(rand.NewSource(10))
	jobs := append(anyJobs(r, 60, 20), busy(), busy(), job(wide()), fleet.Job{})
	want := counted(outcomes(jobs))
	for _, workers := range []int{1, 2, 9, 64} {
		if got := fleet.Census(run(t, jobs, workers)); !slices.Equal(got, want) {
			t.Errorf("%d workers: %v, want %v", workers, got, want)
		}
	}
}

// R4: Census by several at one time.
func TestCensusAtOneTime(t *testing.T) {
	l := anyOutcomes(rand.New(rand.NewSource(11)), 500)
	want := counted(l)
	var got [8][]fleet.Count
	var wait sync.WaitGroup
	for i := range got {
		wait.Add(1)
		go func() {
			defer wait.Done()
			got[i] = fleet.Census(l)
		}()
	}
	wait.Wait()
	for i := range got {
		if !slices.Equal(got[i], want) {
			t.Errorf("%d: %v, want %v", i, got[i], want)
		}
	}
}
