package lines_test

import (
	"fmt"
	"math/rand"
	"slices"
	"strings"
	"testing"

	"portcullis/api"
	"portcullis/drive"
	"portcullis/dump"
	"portcullis/image"
	"portcullis/lines"
)

// played is what Run is to tell, by the chapter's words.
func played(t *testing.T, text string) string {
	t.Helper()
	a := words(text)
	if a.e != api.OK {
		return fmt.Sprintf("error %d at %d\n", int(a.e), a.at)
	}
	s := a.script
	l, e := drive.Run(s.Config, s.Secrets, s.Own, s.Steps)
	if e != api.OK {
		return fmt.Sprintf("error %d\n", int(e))
	}
	c, e := drive.After(s.Config, s.Secrets, s.Own, s.Steps)
	if e != api.OK {
		t.Fatalf("After: %v", e)
	}
	chip, e := dump.Print(s.Config, c)
	if e != api.OK {
		t.Fatalf("Print: %v", e)
	}
	return toldAnswers(l) + chip
}

// runs is Run, held against the words.
func runs(t *testing.T, text string) string {
	t.Helper()
	got := lines.Run(text)
	if want := played(t, text); got != want {
		t.Fatalf("Run(%q): %q, want %q", short(text), short(got), short(want))
	}
	return got
}

// The chapter's script, played.
func TestRunExample(t *testing.T) {
	want := text(
		"0 1 0 - 2", "0 0 0 - 2", "0 1 0 - 2",
		"chip 8 1 2 3 1 0 0", "blown", "page 0 0",
		"cell 0 0100000001000000000000009e8ada2cfefffffffeffffffffffffff617525d3",
		"cell 1 0200000001000000000000006e58445bfdfffffffeffffffffffffff91a7bba4",
		"page 1 0",
	)
	if got := runs(t, text(example()...)); got != want {
		t.Errorf("%q", got)
	}
}

// P23.4: what Parse refuses.
func TestRunRefused(t *testing.T) {
	l := example()
	for _, x := range []struct{ text, want string }{
		{"", "error 5 at 1\n"},
		{"\n", "error 5 at 1\n"},
		{text(l[0]), "error 5 at 2\n"},
		{text(l[:2]...), "error 5 at 3\n"},
		{with(l, 4, "fly"), "error 5 at 4\n"},
		{with(l, 6, "bump -0"), "error 5 at 6\n"},
		{strings.TrimSuffix(text(l...), "\n"), "error 5 at 6\n"},
		{with(l, 1, "chip 3 1 2 3 1 0 0") + "x", "error 5 at 7\n"},
		{with(l, 4, "boot "+strings.Repeat("0", mostLine)), "error 4 at 4\n"},
		{text(slices.Concat(l, slices.Repeat([]string{"start"}, 2000), []string{"stop"})...), "error 5 at 2007\n"},
	} {
		if got := runs(t, x.text); got != x.want {
			t.Errorf("Run(%q): %q, want %q", short(x.text), short(got), x.want)
		}
	}
}

// P23.4: what drive.Run refuses, by each of its errors.
func TestRunErrors(t *testing.T) {
	l := example()
	keys := func(n int) []string {
		var l []string
		for k := range n {
			l = append(l, fmt.Sprintf("key %d 6b", k))
		}
		return l
	}
	steps := func(n int) []string { return slices.Repeat([]string{"read 0"}, n) }
	secret := strings.Repeat("6b", mostSecret)
	for _, x := range []struct{ text, want string }{
		{with(l, 1, "chip 3 1 2 3 1 0 0"), "error 1\n"},
		{with(l, 1, "chip 8 1 2 3 1 -1 0"), "error 1\n"},
		{with(l, 1, "chip 8 1 2 3 1 0 9223372036854775807"), "error 1\n"},
		{with(l, 2, "key 64 6b"), "error 2\n"},
		{with(l, 2, "key -1 6b"), "error 2\n"},
		{with(l, 2, keys(mostKeys+1)...), "error 3\n"},
		{with(l, 2, "key 0 -"), "error 4\n"},
		{with(l, 2, "key 0 "+secret+"6b"), "error 4\n"},
		{with(l, 2, "key 0 6b", "key 1 6b", "key 0 6b"), "error 18\n"},
		{with(l, 3, "own -"), "error 4\n"},
		{with(l, 3, "own "+secret+"6b"), "error 4\n"},
		{with(l, 6, steps(mostScript-1)...), "error 3\n"},
	} {
		if got := runs(t, x.text); got != x.want {
			t.Errorf("Run(%q): %q, want %q", short(x.text), short(got), x.want)
		}
	}
	for _, s := range []string{
		with(l, 2),
		with(l, 2, keys(mostKeys)...),
		with(l, 2, "key 63 "+secret),
		with(l, 3, "own "+secret),
		with(l, 6, steps(mostScript-2)...),
	} {
		if got := runs(t, s); strings.HasPrefix(got, "error") {
			t.Errorf("Run(%q): %q", short(s), got)
		}
	}
}

// P23.4: a script without steps: the chip's text alone, a blank one's.
func TestRunNoSteps(t *testing.T) {
	want := text("chip 8 1 2 3 1 0 0", "blown", "page 0 0", "page 1 0")
	if got := runs(t, text(example()[:3]...)); got != want {
		t.Errorf("%q", got)
	}
	runs(t, text("chip 256 8 64 65536 64 65536 64", "own 00"))
}

// wide has areas, and a log that is soon full.
func wide() api.Config {
	return api.Config{Cells: 5, Slots: 2, Fuses: 3, Step: 4, Keys: 3, Erases: 3, Area: 3}
}

func secretOf(key int) []byte { return []byte{byte(key), 0x5e, 0xc2} }

// signed is an image that is signed with the key that it names.
func signed(slot, key int, version int64, payload ...byte) []byte {
	b, e := image.Make(secretOf(key), api.Image{Slot: slot, Key: key, Version: version, Payload: payload})
	if e != api.OK {
		panic(e)
	}
	return b
}

// ring is wide's script with those steps' lines.
func ring(steps ...string) string {
	g := wide()
	l := []string{fmt.Sprintf("chip %d %d %d %d %d %d %d", g.Cells, g.Slots, g.Fuses, g.Step, g.Keys, g.Erases, g.Area)}
	for k := range g.Keys {
		l = append(l, fmt.Sprintf("key %d %x", k, secretOf(k)))
	}
	return text(slices.Concat(l, []string{"own 6f776e"}, steps)...)
}

// P23.4: every kind of step.
func TestRunKinds(t *testing.T) {
	got := runs(t, ring(
		"start",
		fmt.Sprintf("stage %x", signed(0, 0, 1, 7, 7)),
		"start",
		"confirm",
		"bump 0",
		"bumpto 1 5",
		fmt.Sprintf("boot %x", signed(1, 1, 9)),
		"confirm",
		"quote 6e",
		"revoke 1",
		"revoked 1",
		"revoked 2",
		fmt.Sprintf("boot %x", signed(1, 1, 9)),
		"read 1",
		"read 2",
		"restore",
		"read 0",
		"mount",
		"read 0",
		"cut 0 ff",
		"bump 0",
		"read 0",
	))
	l := strings.Split(got, "\n")
	for i, want := range map[int]string{0: "17 0 0 - ", 1: "0 0 0 - ", 3: "0 0 0 - ", 4: "0 2 0 - ", 6: "0 9 0 - ", 9: "0 0 0 - ", 10: "0 0 1 - ", 11: "0 0 0 - ", 12: "14 0 0 - ", 13: "0 9 0 - ", 14: "2 0 0 - ", 16: "11 0 0 - ", 18: "0 2 0 - ", 20: "8 0 0 - ", 21: "8 0 0 - "} {
		if !strings.HasPrefix(l[i], want) {
			t.Errorf("%d: %q, want %q", i, l[i], want)
		}
	}
	for _, i := range []int{2, 8} { // with a hash
		if len(strings.Split(l[i], " ")[3]) != 64 {
			t.Errorf("%d: %q", i, l[i])
		}
	}
}

// P23.4: cuts at each act, with masks, and wear to the end.
func TestRunCutsAndWear(t *testing.T) {
	for n := range 12 {
		for _, mask := range []string{"-", "ff", "0f", "a53c"} {
			runs(t, ring("bump 0", fmt.Sprintf("cut %d %s", n, mask), "bumpto 1 9", fmt.Sprintf("stage %x", signed(0, 0, 1, 7, 7)), "bump 0", "read 0", "restore", "mount", "read 0", "read 1", "start", "confirm", "bump 0", "quote -"))
		}
	}
	got := runs(t, ring(slices.Repeat([]string{"bump 0", fmt.Sprintf("stage %x", signed(1, 2, 3)), "cut 1 0f", "bump 1", "restore", "mount"}, 40)...))
	if !strings.Contains(got, "\n9 0 0 - ") {
		t.Error("nothing is worn out")
	}
}

// anyImage is one that may be started more often than not.
func anyImage(r *rand.Rand) []byte {
	b := signed(r.Intn(2), r.Intn(3), r.Int63n(12), make([]byte, r.Intn(300))...)
	switch r.Intn(10) {
	case 0:
		return nil
	case 1:
		b[r.Intn(len(b))] ^= 1
	case 2:
		return b[:r.Intn(len(b))]
	}
	return b
}

// anyLine is a step's line that a rom of wide's may be asked.
func anyLine(r *rand.Rand) string {
	k := kinds()[r.Intn(13)]
	l := []string{k.word}
	for _, f := range k.fields {
		switch {
		case k.word == "cut" && f == 'B':
			l = append(l, []string{"-", "ff", "0f", "a53c"}[r.Intn(4)])
		case k.word == "cut":
			l = append(l, fmt.Sprint(r.Intn(8)-1))
		case f == 'B':
			l = append(l, told(anyImage(r)))
		case f == 'V':
			l = append(l, fmt.Sprint(r.Intn(14)-1))
		default:
			l = append(l, fmt.Sprint(r.Intn(5)-1))
		}
	}
	return strings.Join(l, " ")
}

// P23.4: many scripts, whatever is in them.
func TestRunAny(t *testing.T) {
	r := rand.New(rand.NewSource(1))
	for range 300 {
		var l []string
		for range r.Intn(60) {
			if r.Intn(6) == 0 {
				l = append(l, "restore", "mount")
			}
			l = append(l, anyLine(r))
		}
		if r.Intn(20) == 0 {
			l = append(l, "fly")
		}
		runs(t, ring(l...))
	}
}

// P23.4, P23.5: what Run tells of a script is read back: the answers, then the chip.
func TestRunReadBack(t *testing.T) {
	r := rand.New(rand.NewSource(2))
	for n := range 50 {
		var l []string
		for range n {
			l = append(l, anyLine(r))
		}
		got := runs(t, ring(l...))
		answers, chip, _ := strings.Cut(got, "chip")
		if x := answersTake(t, answers); len(x) != n {
			t.Errorf("%d answers of %d steps", len(x), n)
		}
		g, s, e, at := dump.Parse("chip" + chip)
		if back, _ := dump.Print(g, s); g != wide() || back != "chip"+chip || e != api.OK || at != 0 {
			t.Errorf("%q: %v at %d", short(got), e, at)
		}
	}
}
