package fleet

import (
	"cmp"
	"slices"

	"portcullis/api"
)

// Count is how many jobs ended alike.
type Count struct {
	E    api.Errno
	Last api.Errno
	Acts int
	N    int
}

// ending is how a job ended: outcomes with one ending are counted together.
type ending struct {
	e    api.Errno
	last api.Errno
	acts int
}

// Census counts outcomes that ended alike. A map is gone through in no order, so the counts are sorted: no two of them have one ending.
func Census(l []Outcome) []Count {
	numbers := map[ending]int{}
	for _, x := range l {
		numbers[endingOf(x)]++
	}
	counts := make([]Count, 0, len(numbers))
	for x, n := range numbers {
		counts = append(counts, Count{E: x.e, Last: x.last, Acts: x.acts, N: n})
	}
	slices.SortFunc(counts, rising)
	return counts
}

func endingOf(x Outcome) ending {
	if len(x.Answers) == 0 {
		return ending{e: x.E}
	}
	last := x.Answers[len(x.Answers)-1]
	return ending{e: x.E, last: last.E, acts: last.Acts}
}

func rising(a, b Count) int {
	return cmp.Or(cmp.Compare(a.E, b.E), cmp.Compare(a.Last, b.Last), cmp.Compare(a.Acts, b.Acts))
}
