package patch_test

import (
	"bytes"
	"math/rand"
	"slices"
	"testing"

	"portcullis/api"
	"portcullis/patch"
)

// P25.5: Apply of old and Make(old, next) tells next, and of every other row ErrState.
func TestThereAgain(t *testing.T) {
	r := rand.New(rand.NewSource(263))
	for range 5000 {
		old := anyBytes(r, r.Intn(anyOf(r, 4, 40, 300)))
		next := akin(r, old)
		p := makes(t, old, next)
		gives(t, old, p, string(next))
		for _, other := range [][]byte{next, changed(r, old), changed(r, old), akin(r, old), nil, append(slices.Clone(old), 0)} {
			if !bytes.Equal(other, old) {
				stops(t, other, p, api.ErrState, 5)
			}
		}
	}
}

// P25.5: Apply of another row and a patch that was made, over all short ones.
func TestOtherRows(t *testing.T) {
	rows := [][]byte{{}}
	for i := 0; len(rows[i]) < 4; i++ {
		rows = append(rows, append(slices.Clone(rows[i]), 0), append(slices.Clone(rows[i]), 1))
	}
	for _, old := range rows {
		for _, next := range rows {
			p := makes(t, old, next)
			for _, other := range rows {
				if bytes.Equal(other, old) {
					gives(t, other, p, string(next))
				} else {
					stops(t, other, p, api.ErrState, 5)
				}
			}
		}
	}
}

// wrongHash is the same patch, of which one hash may be another one: 0 none, 1 the old one, 2 the new one.
func wrongHash(p []byte, which int) []byte {
	switch which {
	case 1:
		return with(p, 20, p[20]^16)
	case 2:
		return with(p, 50, p[50]^16)
	}
	return p
}

// P25.5: where Apply of p to old is OK, Apply of Join(p, q) to old tells what Apply of q to that tells, and is refused where that is.
func TestJoinedApply(t *testing.T) {
	r := rand.New(rand.NewSource(264))
	seen := map[api.Errno]int{}
	for range 6000 {
		old := anyBytes(r, r.Intn(60))
		p, mid := anyStep(t, r, old)
		q, _ := anyStep(t, r, mid)
		switch r.Intn(6) {
		case 0:
			q = changed(r, q)
		case 1:
			q = with(q, len(q)-1, q[len(q)-1]^1) // often a byte that is laid
		case 2, 3:
			q = wrongHash(q, 1+r.Intn(2))
		}
		row, f := applies(t, old, p)
		if f.e != api.OK || !bytes.Equal(row, mid) {
			t.Fatalf("Apply(%x, %x): %x, %v", old, p, row, f)
		}
		want, no := applies(t, mid, q)
		j, refusal := joins(t, p, q)
		seen[no.e]++
		if refusal.e != api.OK {
			if no.e == api.OK {
				t.Fatalf("Join(%x, %x): %v, but Apply tells %x", p, q, refusal, want)
			}
			continue
		}
		got, err := patch.Apply(old, j)
		if faultOf(t, err) != no || !bytes.Equal(got, want) {
			t.Fatalf("Apply(%x, Join(%x, %x)): %x, %v, want %x, %v", old, p, q, got, err, want, no)
		}
		stops(t, append(slices.Clone(old), 1), j, api.ErrState, 5)
	}
	for _, e := range []api.Errno{api.OK, api.ErrState, api.ErrChain} {
		if seen[e] < 300 {
			t.Errorf("%v was answered %d times", e, seen[e])
		}
	}
}

// P25.5: a patch there and one back, joined, tell the first row.
func TestThereAndBack(t *testing.T) {
	r := rand.New(rand.NewSource(265))
	for range 3000 {
		old := anyBytes(r, r.Intn(100))
		next := akin(r, old)
		j, f := joins(t, makes(t, old, next), makes(t, next, old))
		if f.e != api.OK {
			t.Fatal(f)
		}
		gives(t, old, j, string(old))
	}
}
