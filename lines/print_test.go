package lines_test

import (
	"bytes"
	"math"
	"slices"
	"strings"
	"testing"

	"portcullis/api"
	"portcullis/lines"
)

// of is a script with these steps alone.
func of(steps ...api.Step) lines.Script { return lines.Script{Steps: steps} }

// full is a step of that kind whose fields, just those that its line names, are not zero.
func full(k kind) api.Step {
	s := api.Step{Kind: k.kind}
	for _, f := range k.fields {
		set(&s, f)
	}
	return s
}

func set(s *api.Step, field rune) {
	switch field {
	case 'N':
		s.N = 17
	case 'V':
		s.V = -4
	case 'B':
		s.Bytes = []byte{0, 0xaf}
	}
}

// P23.1: the table of the kinds, each with its line.
func TestPrintKinds(t *testing.T) {
	want := map[int]string{
		api.StepRead: "read 17", api.StepBump: "bump 17", api.StepBumpTo: "bumpto 17 -4", api.StepRevoke: "revoke 17", api.StepRevoked: "revoked 17",
		api.StepBoot: "boot 00af", api.StepConfirm: "confirm", api.StepStage: "stage 00af", api.StepStart: "start", api.StepMount: "mount",
		api.StepCut: "cut 17 00af", api.StepRestore: "restore", api.StepQuote: "quote 00af",
	}
	var all []api.Step
	for _, k := range kinds() {
		if got := prints(t, of(full(k))); got != text("chip 0 0 0 0 0 0 0", "own -", want[k.kind]) {
			t.Errorf("%q", got)
		}
		prints(t, of(api.Step{Kind: k.kind}))
		prints(t, of(api.Step{Kind: k.kind, Bytes: []byte{}}))
		all = append(all, full(k))
	}
	if len(all) != 13 || len(want) != 13 {
		t.Fatal("there are 13 kinds")
	}
	prints(t, of(all...))
	slices.Reverse(all)
	prints(t, of(append(all, all...)...))
}

// P23.1: a kind that is none.
func TestPrintWrongKind(t *testing.T) {
	for _, k := range []int{0, 14, -1, 15, 256 + 1, 1<<32 + 1, math.MinInt, math.MaxInt} {
		refuses(t, of(api.Step{Kind: k}), api.ErrKind)
		refuses(t, of(api.Step{Kind: k, N: 1, V: 1, Bytes: []byte{1}}), api.ErrKind)
		for _, x := range kinds() {
			refuses(t, of(full(x), full(x), api.Step{Kind: k}), api.ErrKind)
			refuses(t, of(full(x), api.Step{Kind: k}, full(x)), api.ErrKind)
		}
	}
}

// P23.1: each kind with each field that its line doesn't name, alone and together.
func TestPrintWrongField(t *testing.T) {
	for _, k := range kinds() {
		for fields := 1; fields < 8; fields++ {
			s, spare := api.Step{Kind: k.kind}, false
			for i, f := range "NVB" {
				if fields>>i&1 > 0 {
					set(&s, f)
					spare = spare || !strings.ContainsRune(k.fields, f)
				}
			}
			for _, s := range []lines.Script{of(s), of(full(k), s), of(s, full(k))} {
				if spare {
					refuses(t, s, api.ErrArg)
				} else {
					prints(t, s)
				}
			}
		}
	}
}

// P23.1: a field that isn't zero, by whatever is in it.
func TestPrintNotZero(t *testing.T) {
	for _, n := range []int{1, -1, 256, 1 << 32, math.MinInt, math.MaxInt} {
		refuses(t, of(api.Step{Kind: api.StepBoot, N: n}), api.ErrArg)
		refuses(t, of(api.Step{Kind: api.StepRead, V: int64(n)}), api.ErrArg)
	}
	refuses(t, of(api.Step{Kind: api.StepBump, Bytes: []byte{0}}), api.ErrArg)
	refuses(t, of(api.Step{Kind: api.StepMount, Bytes: make([]byte, mostLine)}), api.ErrArg)
	prints(t, of(api.Step{Kind: api.StepMount, Bytes: make([]byte, 0, 9)}))
}

// P23.1: of several steps that are wrong the first one tells; of one step the kind comes first; a line that is too long comes last.
func TestPrintFirst(t *testing.T) {
	kind, field := api.Step{Kind: 14}, api.Step{Kind: api.StepStart, V: 1}
	both := api.Step{Kind: -1, V: 1}
	great := api.Step{Kind: api.StepBoot, Bytes: make([]byte, mostLine)}
	good := api.Step{Kind: api.StepRead}
	refuses(t, of(kind, field), api.ErrKind)
	refuses(t, of(field, kind), api.ErrArg)
	refuses(t, of(good, field, good, kind, good), api.ErrArg)
	refuses(t, of(good, kind, good, field, good), api.ErrKind)
	refuses(t, of(both, field), api.ErrKind)
	refuses(t, of(field, both), api.ErrArg)
	refuses(t, of(great, kind), api.ErrKind)
	refuses(t, of(great, field), api.ErrArg)
	refuses(t, of(field, great), api.ErrArg)
	refuses(t, of(good, great, good), api.ErrBytes)
	for _, x := range []struct {
		s api.Step
		e api.Errno
	}{{kind, api.ErrKind}, {field, api.ErrArg}} {
		refuses(t, lines.Script{Own: make([]byte, mostLine), Steps: []api.Step{good, x.s}}, x.e)
		refuses(t, lines.Script{Secrets: []api.Secret{{Bytes: make([]byte, mostLine)}}, Steps: []api.Step{good, x.s}}, x.e)
	}
	great.V = 1
	refuses(t, of(great), api.ErrArg)
	great.Kind = 0
	refuses(t, of(great), api.ErrKind)
}

func edges() []int {
	return []int{0, 1, 9, 10, 11, 99, 100, -1, -9, -10, 65536, math.MaxInt32, math.MinInt32, math.MaxInt, math.MaxInt - 1, math.MinInt, math.MinInt + 1}
}

// P23.1: numbers, at their edges, at each place.
func TestPrintNumbers(t *testing.T) {
	for _, n := range edges() {
		for _, k := range kinds() {
			s := full(k)
			if strings.Contains(k.fields, "N") {
				s.N = n
			}
			if strings.Contains(k.fields, "V") {
				s.V = int64(n)
			}
			prints(t, of(s))
		}
		prints(t, lines.Script{Secrets: []api.Secret{{Key: n}, {Key: n, Bytes: []byte{1}}}})
		for i := range 7 {
			var g [7]int
			g[i] = n
			prints(t, lines.Script{Config: api.Config{Cells: g[0], Slots: g[1], Fuses: g[2], Step: g[3], Keys: g[4], Erases: g[5], Area: g[6]}})
		}
	}
}

// P23.1: bytes: none, one, all values, at each place.
func TestPrintBytes(t *testing.T) {
	var all []byte
	for b := range 256 {
		all = append(all, byte(b))
	}
	rows := [][]byte{nil, {}, all, bytes.Repeat(all, 9)}
	for _, b := range all {
		rows = append(rows, []byte{b}, []byte{b, 0}, []byte{0, b})
	}
	for _, b := range rows {
		s := lines.Script{Own: b, Secrets: []api.Secret{{Bytes: b}, {Key: 1, Bytes: b}}}
		for _, k := range []int{api.StepBoot, api.StepStage, api.StepCut, api.StepQuote} {
			s.Steps = append(s.Steps, api.Step{Kind: k, Bytes: b})
		}
		prints(t, s)
	}
}

// P23.1: the config may be any one, there may be no secrets, the same one twice, no own bytes, no steps.
func TestPrintUnplayed(t *testing.T) {
	if got := prints(t, lines.Script{}); got != text("chip 0 0 0 0 0 0 0", "own -") {
		t.Errorf("%q", got)
	}
	g := api.Config{Cells: -1, Slots: 2, Fuses: 3, Step: 4, Keys: 5, Erases: 6, Area: 7}
	k := api.Secret{Key: 7, Bytes: []byte{0xab}}
	got := prints(t, lines.Script{Config: g, Secrets: []api.Secret{k, k, {Key: 99}, k}, Own: []byte{1}})
	if got != text("chip -1 2 3 4 5 6 7", "key 7 ab", "key 7 ab", "key 99 -", "key 7 ab", "own 01") {
		t.Errorf("%q", got)
	}
	many := of(slices.Repeat([]api.Step{{Kind: api.StepStart}}, mostScript+1)...)
	many.Secrets = make([]api.Secret, mostKeys+1)
	many.Own = make([]byte, mostSecret+1)
	prints(t, many)
}

// lengths are scripts with one line that its bytes, with a number of that many digits, make as long as they are told to.
func lengths(bytes int, digits int) []lines.Script {
	n := 1
	for range digits - 1 {
		n *= 10
	}
	b := make([]byte, bytes)
	return []lines.Script{
		{Secrets: []api.Secret{{Key: n, Bytes: b}}},
		of(api.Step{Kind: api.StepCut, N: n, Bytes: b}),
		{Own: b},
		of(api.Step{Kind: api.StepBoot, Bytes: b}),
		of(api.Step{Kind: api.StepStage, Bytes: b}),
		of(api.Step{Kind: api.StepQuote, Bytes: b}),
	}
}

// longest is how many bytes the longest line of a text has, without its line feed.
func longest(text string) int {
	n := 0
	for l := range strings.SplitSeq(text, "\n") {
		n = max(n, len(l))
	}
	return n
}

// P23.1: a line may have MaxLine bytes, and no more.
func TestPrintMaxLine(t *testing.T) {
	met := map[int][6]bool{} // by the length of a line: which of the lines had it
	for n := mostLine/2 - 12; n <= mostLine/2+1; n++ {
		for digits := range 4 {
			for i, s := range lengths(n, 1+digits) {
				if i > 1 && digits > 0 {
					continue // it has no number
				}
				l := longest(toldScript(s))
				lines := met[l]
				lines[i] = true
				met[l] = lines
				atMost(t, s, l)
			}
		}
	}
	// The bytes' digits are even in number: without a number a line is either just as long as may be, or one byte longer.
	if met[mostLine] != [6]bool{true, true, true, false, true, true} || met[mostLine+1] != [6]bool{true, true, false, true, false, false} {
		t.Errorf("the edge was met by %v, one more by %v", met[mostLine], met[mostLine+1])
	}
}

// atMost is Print of a script whose longest line is that long.
func atMost(t *testing.T, s lines.Script, longest int) {
	t.Helper()
	if longest > mostLine {
		refuses(t, s, api.ErrBytes)
	} else if text, e := lines.Print(s); text != toldScript(s) || e != api.OK {
		t.Errorf("a line of %d bytes: %v", longest, e)
	}
}

// P23.1: what is far too long is refused, too, wherever it stands.
func TestPrintFarTooLong(t *testing.T) {
	good := api.Step{Kind: api.StepQuote, Bytes: []byte("n")}
	for _, n := range []int{mostLine/2 + 1, mostLine, 5 * mostLine} {
		for _, s := range lengths(n, 1) {
			s.Secrets = append([]api.Secret{{Key: 1}}, s.Secrets...)
			s.Secrets = append(s.Secrets, api.Secret{Key: 2})
			s.Steps = append([]api.Step{good}, s.Steps...)
			s.Steps = append(s.Steps, good)
			refuses(t, s, api.ErrBytes)
		}
	}
}
