package lines_test

import (
	"fmt"
	"math"
	"slices"
	"strings"
	"testing"

	"portcullis/api"
	"portcullis/lines"
)

var zeros = strings.Repeat("0", 64)

// printsAnswers is PrintAnswers, which must tell what the words say, and be read back.
func printsAnswers(t *testing.T, l ...api.Answer) string {
	t.Helper()
	text := lines.PrintAnswers(l)
	if want := toldAnswers(l); text != want {
		t.Fatalf("PrintAnswers: %q, want %q", short(text), short(want))
	}
	if got, e, at := lines.ParseAnswers(text); !slices.Equal(got, l) || e != api.OK || at != 0 {
		t.Fatalf("ParseAnswers(%q): %v at %d, other answers", short(text), e, at)
	}
	return text
}

// answersTell is ParseAnswers, which must refuse the text for that line, and tell nothing else; and so must the words.
func answersTell(t *testing.T, text string, at int) {
	t.Helper()
	if l, e, line := lines.ParseAnswers(text); len(l) != 0 || e != api.ErrForm || line != at {
		t.Errorf("ParseAnswers(%q): %v at %d, %d answers, want ErrForm at %d", short(text), e, line, len(l), at)
	}
	answersHold(t, text)
}

func answersTake(t *testing.T, text string) []api.Answer {
	t.Helper()
	if !answersHold(t, text) {
		t.Fatalf("ParseAnswers(%q) takes it not", short(text))
	}
	l, _, _ := lines.ParseAnswers(text)
	return l
}

// P23.3: the form of a line, field by field.
func TestPrintAnswers(t *testing.T) {
	if got := printsAnswers(t); got != "" {
		t.Errorf("of none: %q", got)
	}
	if got := lines.PrintAnswers([]api.Answer{}); got != "" {
		t.Errorf("of an empty list: %q", got)
	}
	if got := printsAnswers(t, api.Answer{}); got != "0 0 0 - 0\n" {
		t.Errorf("%q", got)
	}
	a := api.Answer{E: api.ErrPower, V: -5, Is: true, Hash: api.Hash{0xab, 31: 0x0c}, Acts: 7}
	if got := printsAnswers(t, a, api.Answer{}, a); got != text("8 -5 1 ab"+zeros[4:]+"0c 7", "0 0 0 - 0", "8 -5 1 ab"+zeros[4:]+"0c 7") {
		t.Errorf("%q", got)
	}
}

// P23.3: numbers, at their edges, at each place.
func TestPrintAnswersNumbers(t *testing.T) {
	for _, n := range edges() {
		printsAnswers(t, api.Answer{E: api.Errno(n)}, api.Answer{V: int64(n)}, api.Answer{Acts: n}, api.Answer{E: api.Errno(n), V: int64(n), Is: true, Hash: api.Hash{1}, Acts: n})
	}
	if got := printsAnswers(t, api.Answer{E: math.MinInt, V: math.MaxInt64, Acts: -1}); got != "-9223372036854775808 9223372036854775807 0 - -1\n" {
		t.Errorf("%q", got)
	}
}

// P23.3: a hash is zero just if none of its bits is 1.
func TestPrintAnswersHash(t *testing.T) {
	var all []api.Answer
	for bit := range 256 {
		var h api.Hash
		h[bit/8] = 1 << (bit % 8)
		all = append(all, api.Answer{Hash: h})
		if got := printsAnswers(t, api.Answer{Hash: h}); len(got) != len("0 0 0  0\n")+64 || strings.Contains(got, "-") {
			t.Errorf("bit %d: %q", bit, got)
		}
	}
	printsAnswers(t, all...)
	var h api.Hash
	for i := range h {
		h[i] = 0xff
	}
	printsAnswers(t, api.Answer{Hash: h}, api.Answer{})
}

// P23.3: nothing is no answers.
func TestParseAnswersNothing(t *testing.T) {
	if l, e, at := lines.ParseAnswers(""); len(l) != 0 || e != api.OK || at != 0 {
		t.Errorf("%v, %v, %d", l, e, at)
	}
	answersTell(t, "\n", 1)
	answersTell(t, " ", 1)
	answersTell(t, "x", 1)
}

func answerLines() []string {
	return []string{"0 0 0 - 0", "-19 55 1 " + strings.Repeat("0123456789abcdef", 4) + " 20", "7 -1 0 " + zeros[1:] + "1 -3"}
}

// P23.3: each field wrong, in each line.
func TestParseAnswersFields(t *testing.T) {
	l := answerLines()
	some := strings.Repeat("ab", 32)
	numbers := []string{"", "-0", "00", "01", "-01", "+1", "-", "--1", "1x", "x", "0x1", "1_0", "9223372036854775808", "-9223372036854775809", "18446744073709551617", strings.Repeat("0", 70), "1" + strings.Repeat("0", 700), some}
	flags := []string{"", "2", "-1", "00", "01", "10", "-", "true", "+1", "x", some}
	hashes := []string{"", "0", zeros, zeros[:62], zeros[:63], zeros + "0", zeros + "00", some[:62], some[:63], some + "a", some + "ab", some + some, "--", "-" + some[1:], "-" + some, "ab", strings.ToUpper(some), some[:63] + "A", "F" + some[1:], some[:63] + "g", "x", some[:32] + "-" + some[33:]}
	for at := 1; at <= len(l); at++ {
		for i, bad := range [][]string{numbers, numbers, flags, hashes, numbers} {
			for _, by := range bad {
				w := strings.Split(l[at-1], " ")
				w[i] = by
				answersTell(t, with(l, at, strings.Join(w, " ")), at)
			}
		}
		for i, good := range [][]string{{"9223372036854775807"}, {"-9223372036854775808"}, {"0", "1"}, {"-", some, zeros[1:] + "f", "8" + zeros[1:]}, {"10"}} {
			for _, by := range good {
				w := strings.Split(l[at-1], " ")
				w[i] = by
				answersTake(t, with(l, at, strings.Join(w, " ")))
			}
		}
	}
	for _, n := range edges() {
		answersTake(t, fmt.Sprintf("%d %d 1 - %d\n", n, n, n))
	}
}

// P23.3: blanks and fields, too many and too few.
func TestParseAnswersForm(t *testing.T) {
	l := answerLines()
	for at, line := range l {
		w := strings.Split(line, " ")
		for i := range w {
			answersTell(t, with(l, at+1, strings.Join(slices.Delete(slices.Clone(w), i, i+1), " ")), at+1)
			answersTell(t, with(l, at+1, strings.Join(slices.Insert(slices.Clone(w), i, "0"), " ")), at+1)
		}
		for i := range len(line) + 1 {
			if i > 0 && i < len(line) && line[i] != ' ' {
				continue
			}
			for _, by := range []string{" ", "\t", "\r", "\x00", "\u00a0"} {
				answersTell(t, with(l, at+1, line[:i]+by+line[i:]), at+1)
			}
		}
		for _, by := range []string{line + " 0", line + " -", "x", "error 5", "start", " ", ""} {
			answersTell(t, with(l, at+1, by), at+1)
		}
		answersTell(t, before(l, at+1, ""), at+1)
	}
	answersTell(t, text(append(l, "")...), 4)
	answersTell(t, strings.ReplaceAll(text(l...), "\n", "\r\n"), 1)
}

// P23.3: the last line needs its line feed; of several lines that are wrong the first one tells.
func TestParseAnswersEnd(t *testing.T) {
	whole := text(answerLines()...)
	for n := range len(whole) {
		if n == 0 || whole[n-1] == '\n' {
			answersTake(t, whole[:n])
			continue
		}
		answersTell(t, whole[:n], 1+strings.Count(whole[:n], "\n"))
	}
	answersTell(t, text("0 0 0 - 0", "x", "0 0 0 - 0", "y"), 2)
	answersTell(t, text("0 0 0 - 0", "x", "0 0 0 - 0")+"0 0 0 - 0", 2)
}

// P23.3: ErrForm alone, however long a line is.
func TestParseAnswersLong(t *testing.T) {
	for _, n := range []int{mostLine - 1, mostLine, mostLine + 1, 2 * mostLine} {
		for _, line := range []string{strings.Repeat("0", n), strings.Repeat("1", n), strings.Repeat(" ", n), "0 0 0 " + strings.Repeat("ab", n/2) + " 0", "0 0 0 - " + strings.Repeat("1", n), "0 " + strings.Repeat("0 ", n/2)} {
			answersTell(t, text("0 0 0 - 0", line, "0 0 0 - 0"), 2)
			answersTell(t, text("0 0 0 - 0")+line, 2)
		}
	}
}

// P23.3: how many answers there are is not asked.
func TestManyAnswers(t *testing.T) {
	var l []api.Answer
	for i := range 5000 {
		l = append(l, api.Answer{E: api.Errno(i % 20), V: int64(i), Is: i%3 == 0, Hash: api.Hash{byte(i)}, Acts: 2 * i})
	}
	s := printsAnswers(t, l...)
	answersTell(t, s+"\n", 5001)
}
