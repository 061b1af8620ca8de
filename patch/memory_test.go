package patch_test

import (
	"bytes"
	"fmt"
	"math/rand"
	"slices"
	"sync"
	"testing"

	"portcullis/api"
	"portcullis/patch"
)

// roomy is a row with spare room behind it, in which something lies.
func roomy(b []byte) []byte {
	return append(append(make([]byte, 0, len(b)+50), b...), bytes.Repeat([]byte{0xa5, 1, 2}, 16)...)[:len(b)]
}

// stretched is a copy of a row with its spare room.
func stretched(b []byte) []byte { return slices.Clone(b[:cap(b)]) }

// over writes over a row, spare room too.
func over(b []byte) {
	for i := range b[:cap(b)] {
		b[:cap(b)][i] ^= 0x77
	}
}

// call is one of the package's, with two rows as its arguments; what it answers but for bytes is told as text.
type call func(a, b []byte) ([]byte, string)

func calls() []call {
	return []call{
		func(a, b []byte) ([]byte, string) {
			p, e := patch.Make(a, b)
			return p, fmt.Sprint(e)
		},
		func(a, b []byte) ([]byte, string) {
			row, err := patch.Apply(a, b)
			return row, fmt.Sprint(err)
		},
		func(a, b []byte) ([]byte, string) {
			p, err := patch.Join(a, b)
			return p, fmt.Sprint(err)
		},
		func(a, b []byte) ([]byte, string) {
			x, e := patch.Read(a)
			y, f := patch.Read(b)
			return nil, fmt.Sprint(x, e, y, f)
		},
	}
}

// arguments are two rows for each of the calls, right ones or not.
func arguments(t testing.TB, r *rand.Rand) [][2][]byte {
	old := anyBytes(r, r.Intn(50))
	p, mid := anyStep(t, r, old)
	q, _ := anyStep(t, r, mid)
	if r.Intn(4) == 0 {
		p, q = changed(r, p), changed(r, q)
	}
	return [][2][]byte{{old, mid}, {old, p}, {p, q}, {p, q}}
}

// P25.6: rows and patches that are handed in stay as they were, spare room too.
func TestUnchanged(t *testing.T) {
	r := rand.New(rand.NewSource(266))
	for range 2000 {
		for i, x := range arguments(t, r) {
			a, b := roomy(x[0]), roomy(x[1])
			wasA, wasB := stretched(a), stretched(b)
			calls()[i](a, b)
			if !bytes.Equal(stretched(a), wasA) || !bytes.Equal(stretched(b), wasB) {
				t.Fatalf("%d: %x has become %x, or %x %x", i, wasA, stretched(a), wasB, stretched(b))
			}
		}
	}
}

// P25.6: no answer shares memory with an argument, spare room included: written over and appended to, neither is seen in the other.
func TestApart(t *testing.T) {
	r := rand.New(rand.NewSource(267))
	for range 2000 {
		for i, x := range arguments(t, r) {
			a, b := roomy(x[0]), roomy(x[1])
			answer, _ := calls()[i](a, b)
			was := stretched(answer)
			over(a)
			over(b)
			if !bytes.Equal(stretched(answer), was) {
				t.Fatalf("%d: %x has become %x", i, was, stretched(answer))
			}
			wasA, wasB := stretched(a), stretched(b)
			_ = append(answer, 1, 2, 3)
			over(answer)
			if !bytes.Equal(stretched(a), wasA) || !bytes.Equal(stretched(b), wasB) {
				t.Fatalf("%d: an answer shares memory with what was handed in", i)
			}
		}
	}
}

// P25.6: one row that stands in both arguments, and arguments that are pieces of one row of bytes.
func TestSharedArguments(t *testing.T) {
	r := rand.New(rand.NewSource(268))
	for range 2000 {
		for i, x := range arguments(t, r) {
			both := slices.Concat(x[0], x[1])
			was := slices.Clone(both)
			a, b := both[:len(x[0])], both[len(x[0]):]
			answer, text := calls()[i](a, b)
			want, wanted := calls()[i](slices.Clone(x[0]), slices.Clone(x[1]))
			if !bytes.Equal(both, was) || !bytes.Equal(answer, want) || text != wanted {
				t.Fatalf("%d: %x, %s, want %x, %s", i, answer, text, want, wanted)
			}
			calls()[i](a, a)
			if !bytes.Equal(both, was) {
				t.Fatalf("%d: %x has become %x", i, was, both)
			}
		}
	}
}

// P25.6, R3: an error that was told stays as it is, and no two of them are one.
func TestErrorsApart(t *testing.T) {
	p := between("abc", "bcx", copies(1, 2), lays("x"))[:80]
	_, one := patch.Read(p)
	_, two := patch.Read(p)
	one.(*patch.Wrong).At, one.(*patch.Wrong).E = 3, api.ErrArg
	_, three := patch.Read(p)
	for _, err := range []error{two, three} {
		if faultOf(t, err) != (fault{api.ErrShort, 80}) {
			t.Error(err)
		}
	}
}

// P25.6: what was answered once is not kept: an answer that is written over changes no later one.
func TestKeepsNothing(t *testing.T) {
	old, next := bytes.Repeat([]byte("abcdefgh"), 5), bytes.Repeat([]byte("abcdefgh"), 6)
	first, _ := patch.Make(old, next)
	want := slices.Clone(first)
	for range 3 {
		p := makes(t, old, next)
		if !bytes.Equal(p, want) {
			t.Fatalf("%x, then %x", want, p)
		}
		j, f := joins(t, p, makes(t, next, old))
		if f.e != api.OK {
			t.Fatal(f)
		}
		row, _ := applies(t, old, j)
		if !bytes.Equal(row, old) {
			t.Fatalf("%x", row)
		}
		over(p)
		over(j)
		over(row)
	}
}

// all is what every call answers of some arguments, as text.
func all(l [][2][]byte) string {
	var text bytes.Buffer
	for _, x := range l {
		for _, c := range calls() {
			b, s := c(x[0], x[1])
			fmt.Fprintf(&text, "%x %s\n", b, s)
		}
	}
	return text.String()
}

// R4: the same call has the same answer, run twice, and several at one time, of the same memory.
func TestTogether(t *testing.T) {
	r := rand.New(rand.NewSource(269))
	var l [][2][]byte
	for range 100 {
		l = append(l, arguments(t, r)...)
	}
	first := all(l)
	if all(l) != first {
		t.Error("run twice the answers are others")
	}
	var texts [4]string
	var wg sync.WaitGroup
	for i := range texts {
		wg.Go(func() { texts[i] = all(l) })
	}
	wg.Wait()
	for _, text := range texts {
		if text != first {
			t.Error("at one time the answers are others")
		}
	}
}

// R4: answers don't hang on spare room.
func TestRoomDoesNotCount(t *testing.T) {
	r := rand.New(rand.NewSource(270))
	for range 1000 {
		for i, x := range arguments(t, r) {
			a, s := calls()[i](slices.Clip(slices.Clone(x[0])), slices.Clip(slices.Clone(x[1])))
			b, u := calls()[i](roomy(x[0]), roomy(x[1]))
			if !bytes.Equal(a, b) || s != u {
				t.Fatalf("%d: %x, %s, but %x, %s", i, a, s, b, u)
			}
		}
	}
}
