package lines_test

import (
	"fmt"
	"math"
	"slices"
	"strings"
	"testing"

	"portcullis/api"
	"portcullis/lines"
)

// The chapter's script, both ways.
func TestExample(t *testing.T) {
	want := lines.Script{
		Config:  api.Config{Cells: 8, Slots: 1, Fuses: 2, Step: 3, Keys: 1},
		Secrets: []api.Secret{{Key: 0, Bytes: []byte("k")}},
		Own:     []byte("o"),
		Steps:   []api.Step{{Kind: api.StepBump}, {Kind: api.StepCut, N: 1}, {Kind: api.StepRead}},
	}
	if got := takes(t, text(example()...)); !same(got, want) {
		t.Errorf("%+v", got)
	}
	if got := prints(t, want); got != text(example()...) {
		t.Errorf("%q", got)
	}
}

// The chapter's table of texts that are none.
func TestExamplesWrong(t *testing.T) {
	l := example()
	tells(t, "", api.ErrForm, 1)
	tells(t, text(l[0]), api.ErrForm, 2)
	tells(t, text(l[:2]...), api.ErrForm, 3)
	for _, line := range []string{"bump 00", "bump", "bump 0 0", "fly", "boot", "boot 0", "boot 0A", ""} {
		tells(t, with(l, 4, line), api.ErrForm, 4)
	}
	tells(t, before(l, 4, "own 6f"), api.ErrForm, 4)
	tells(t, before(l, 4, "key 1 00"), api.ErrForm, 4)
}

// P23.2: every kind of line, with all that it names.
func TestParseLong(t *testing.T) {
	s := takes(t, text(long()...))
	if s.Config != (api.Config{Cells: -1, Slots: 0, Fuses: 10, Step: 907, Keys: math.MaxInt, Erases: math.MinInt, Area: 5}) {
		t.Errorf("%+v", s.Config)
	}
	if len(s.Secrets) != 3 || !sameSecret(s.Secrets[0], api.Secret{Key: 3, Bytes: []byte{0, 255}}) || !sameSecret(s.Secrets[1], api.Secret{Key: -3}) || s.Secrets[2].Key != 3 {
		t.Errorf("%+v", s.Secrets)
	}
	if string(s.Own) != "\n \r" {
		t.Errorf("%q", s.Own)
	}
	var all []int
	for _, x := range s.Steps {
		all = append(all, x.Kind)
	}
	if want := []int{1, 2, 3, 3, 4, 5, 6, 6, 7, 8, 8, 9, 10, 11, 11, 12, 13, 13, 1}; !slices.Equal(all, want) {
		t.Errorf("%v", all)
	}
	for i, want := range map[int]api.Step{
		1:  {Kind: api.StepBump, N: -20},
		2:  {Kind: api.StepBumpTo, V: math.MinInt64},
		3:  {Kind: api.StepBumpTo, N: -7, V: math.MaxInt64},
		6:  {Kind: api.StepBoot, Bytes: []byte{0, 0xab}},
		13: {Kind: api.StepCut, N: 7, Bytes: []byte{0xff}},
		14: {Kind: api.StepCut, N: -1},
	} {
		if !sameStep(s.Steps[i], want) {
			t.Errorf("%d: %+v", i, s.Steps[i])
		}
	}
}

// P23.2: of a text that is cut off behind each byte, the line that was cut, or would have come next, is wrong; but that steps may be missing.
func TestCutOff(t *testing.T) {
	for _, l := range [][]string{example(), long(), {"chip 0 0 0 0 0 0 0", "own -"}} {
		whole := text(l...)
		own := strings.Index(whole, "\nown")
		own += 1 + strings.Index(whole[own+1:], "\n") + 1 // behind the own line
		for n := range len(whole) {
			got := whole[:n]
			if n >= own && whole[n-1] == '\n' {
				takes(t, got)
				continue
			}
			tells(t, got, api.ErrForm, 1+strings.Count(got, "\n"))
		}
	}
}

// P23.2: without steps, keys, bytes.
func TestParseLittle(t *testing.T) {
	for _, s := range []string{
		text("chip 0 0 0 0 0 0 0", "own -"),
		text("chip 8 1 2 3 1 0 0", "own 00"),
		text("chip 8 1 2 3 1 0 0", "key 0 -", "own -"),
		text("chip 8 1 2 3 1 0 0", "key 0 00", "key 0 00", "own 00"),
		text("chip 8 1 2 3 1 0 0", "own -", "start"),
	} {
		if got := takes(t, s); toldScript(got) != s {
			t.Errorf("%q: %+v", s, got)
		}
	}
	tells(t, "\n", api.ErrForm, 1)
	tells(t, "chip", api.ErrForm, 1)
	tells(t, "chip\n", api.ErrForm, 1)
	tells(t, text("own -"), api.ErrForm, 1)
	tells(t, text("key 0 00", "own -"), api.ErrForm, 1)
	tells(t, text("start"), api.ErrForm, 1)
}

// places are the numbers of long's lines of which no other one has the same form.
func places() []int { return []int{1, 2, 5, 6, 7, 8, 10, 11, 12, 14, 16, 17, 18, 19, 21, 22} }

// P23.2: blanks, and bytes that are none, ahead of, between and behind the words.
func TestWrongBlanks(t *testing.T) {
	l := long()
	for _, at := range places() {
		line := l[at-1]
		for i := range len(line) + 1 {
			if i > 0 && i < len(line) && line[i] != ' ' && line[i-1] != ' ' {
				continue
			}
			for _, by := range []string{" ", "  ", "\t", "\r", "\x00", "\v", "\f", "\u00a0", "\u2003", "\xff", "\x7f", "_", ","} {
				tells(t, with(l, at, line[:i]+by+line[i:]), api.ErrForm, at)
				if i < len(line) && line[i] == ' ' && by != " " {
					tells(t, with(l, at, line[:i]+by+line[i+1:]), api.ErrForm, at)
				}
			}
			if i < len(line) && line[i] == ' ' {
				tells(t, with(l, at, line[:i]+line[i+1:]), api.ErrForm, at)
			}
		}
		tells(t, with(l, at, line+"\r"), api.ErrForm, at)
		tells(t, with(l, at, strings.Replace(line, " ", "\t", 1)+" "), api.ErrForm, at)
	}
	tells(t, strings.ReplaceAll(text(l...), "\n", "\r\n"), api.ErrForm, 1)
	tells(t, strings.ReplaceAll(text(l...), "\n", "\r"), api.ErrForm, 1)
	tells(t, "\ufeff"+text(l...), api.ErrForm, 1)
}

// P23.2: great letters, and words that are nearly one.
func TestWrongWords(t *testing.T) {
	l := long()
	for _, at := range places() {
		word, rest, _ := strings.Cut(l[at-1], " ")
		if rest != "" {
			rest = " " + rest
		}
		for i := range len(word) {
			tells(t, with(l, at, word[:i]+strings.ToUpper(word[i:i+1])+word[i+1:]+rest), api.ErrForm, at)
			if w := word[:i] + word[i+1:]; w != "revoke" {
				tells(t, with(l, at, w+rest), api.ErrForm, at)
			}
		}
		for _, w := range []string{strings.ToUpper(word), word + "x", "x" + word, word + word, word + ":", "-", "0", "fly", "none", ""} {
			tells(t, with(l, at, w+rest), api.ErrForm, at)
		}
		for _, w := range strings.Fields(rest) {
			tells(t, with(l, at, w), api.ErrForm, at)
		}
	}
}

// P23.2: fields too many and too few.
func TestWrongFields(t *testing.T) {
	l := long()
	for _, at := range places() {
		w := strings.Fields(l[at-1])
		for i := 1; i < len(w); i++ {
			tells(t, with(l, at, strings.Join(slices.Concat(w[:i], w[i+1:]), " ")), api.ErrForm, at)
			tells(t, with(l, at, strings.Join(w[:i], " ")), api.ErrForm, at)
		}
		for i := 1; i <= len(w); i++ {
			for _, by := range []string{"0", "1", "-1", "00", "-", "ab", "x", w[0]} {
				tells(t, with(l, at, strings.Join(slices.Insert(slices.Clone(w), i, by), " ")), api.ErrForm, at)
			}
		}
	}
}

// field is a line with %s at the place of one of its fields.
type field struct {
	at   int
	line string
}

func numberFields() []field {
	l := []field{{2, "key %s 00"}, {2, "key %s -"}, {8, "bumpto %s 0"}, {8, "bumpto 0 %s"}, {19, "cut %s -"}, {19, "cut %s 00"}}
	for i := range 7 {
		w := slices.Repeat([]string{"1"}, 7)
		w[i] = "%s"
		l = append(l, field{1, "chip " + strings.Join(w, " ")})
	}
	for _, word := range []string{"read", "bump", "revoke", "revoked"} {
		l = append(l, field{6, word + " %s"}, field{24, word + " %s"})
	}
	return l
}

func bytesFields() []field {
	return []field{{2, "key 0 %s"}, {5, "own %s"}, {12, "boot %s"}, {15, "stage %s"}, {19, "cut 1 %s"}, {22, "quote %s"}, {24, "quote %s"}}
}

// P23.2: what is a number, at each place.
func TestNumbers(t *testing.T) {
	l := long()
	for _, f := range numberFields() {
		for _, n := range edges() {
			takes(t, with(l, f.at, fmt.Sprintf(f.line, fmt.Sprint(n))))
		}
		for _, n := range []string{
			"", "-0", "00", "01", "007", "-01", "-00", "+1", "+0", "-", "--1", "-+1", "- 1", "1-", "1x", "x1", "0x1", "1e3", "1_0", "1.0", ".", "1,0", "a", "0b1", "0o7", "\u0661", "\uff11",
			"9223372036854775808", "-9223372036854775809", "9223372036854775810", "-9223372036854775810", "18446744073709551616", "18446744073709551617", "-18446744073709551615", "99999999999999999999", "-99999999999999999999",
			"1" + strings.Repeat("0", 999), "-1" + strings.Repeat("0", 999), strings.Repeat("0", 999), "340282366920938463463374607431768211457",
		} {
			tells(t, with(l, f.at, fmt.Sprintf(f.line, n)), api.ErrForm, f.at)
		}
	}
}

// P23.2: what bytes are, at each place.
func TestBytes(t *testing.T) {
	l := long()
	for _, f := range bytesFields() {
		for _, b := range []string{"-", "00", "ff", "0a", "a0", "0123456789abcdef", strings.Repeat("00", 999)} {
			takes(t, with(l, f.at, fmt.Sprintf(f.line, b)))
		}
		for _, b := range []string{"", "0", "a", "000", "abc", "--", "-00", "00-", "-0", "---", "0x00", "+0", "00 00", " 00", "0g", "g0", "0/", "0:", "0`", "0@", "\x00\x00", "\uff10", strings.Repeat("0", 999)} {
			tells(t, with(l, f.at, fmt.Sprintf(f.line, b)), api.ErrForm, f.at)
		}
		for d := 'A'; d <= 'F'; d++ {
			tells(t, with(l, f.at, fmt.Sprintf(f.line, "0"+string(d))), api.ErrForm, f.at)
			tells(t, with(l, f.at, fmt.Sprintf(f.line, string(d)+"0")), api.ErrForm, f.at)
		}
	}
}

// P23.2: every pair of bytes as a byte's two digits.
func TestDigits(t *testing.T) {
	l := example()
	for a := range 256 {
		for b := range 256 {
			holds(t, with(l, 3, "own "+string([]byte{byte(a), byte(b)})))
		}
	}
}

// P23.2: lines at places where others must stand.
func TestWrongPlaces(t *testing.T) {
	l := long()
	for at := 1; at <= len(l); at++ {
		tells(t, before(l, at, ""), api.ErrForm, at)
		tells(t, before(l, at, " "), api.ErrForm, at)
		tells(t, before(l, at, "fly"), api.ErrForm, at)
		if at > 1 {
			tells(t, before(l, at, l[0]), api.ErrForm, at)
		}
		if at > 5 {
			tells(t, before(l, at, "key 1 00"), api.ErrForm, at)
			tells(t, before(l, at, "own 00"), api.ErrForm, at)
			tells(t, before(l, at, "own -"), api.ErrForm, at)
			continue
		}
		for _, x := range kinds() {
			tells(t, before(l, at, toldStep(full(x))), api.ErrForm, at)
		}
	}
	tells(t, text(append(l, "")...), api.ErrForm, len(l)+1)
	tells(t, text(append(l, l[0])...), api.ErrForm, len(l)+1)
	tells(t, with(l, 5), api.ErrForm, 5) // no own line: a step stands there
	tells(t, with(l, 1), api.ErrForm, 1)
	tells(t, text(append([]string{l[4]}, l...)...), api.ErrForm, 1)
	takes(t, with(l, 3))
	takes(t, with(l, 6))
	takes(t, text(l[0], l[4]))
}

// P23.2: the last line needs its line feed, be it right or wrong.
func TestNoLineFeed(t *testing.T) {
	l := long()
	for n := 1; n <= len(l); n++ {
		tells(t, strings.TrimSuffix(text(l[:n]...), "\n"), api.ErrForm, n)
		tells(t, text(l[:n]...)+"fly", api.ErrForm, n+1)
		tells(t, text(l[:n]...)+" ", api.ErrForm, n+1)
		tells(t, text(l[:n]...)+"start", api.ErrForm, n+1)
	}
}

// P23.2: of several lines that are wrong the first one tells.
func TestFirstWrong(t *testing.T) {
	l := long()
	for i := 1; i <= len(l); i++ {
		for k := i + 1; k <= len(l); k++ {
			x := slices.Clone(l)
			x[i-1], x[k-1] = "fly", "bump 00"
			tells(t, text(x...), api.ErrForm, i)
			tells(t, strings.TrimSuffix(text(x...), "\n"), api.ErrForm, i)
		}
	}
}

// sized is a line of just so many bytes, of a right form.
func sized(begin string, n int) string {
	if (n-len(begin))%2 > 0 {
		panic("bytes have two digits each")
	}
	return begin + strings.Repeat("5a", (n-len(begin))/2)
}

// P23.2: a line may have MaxLine bytes, without its line feed, and no more.
func TestMaxLine(t *testing.T) {
	l := example()
	for _, x := range []field{{2, "key 0 "}, {2, "key 10 "}, {2, "key -1 "}, {3, "own "}, {4, "stage "}, {4, "boot "}, {5, "quote "}, {5, "cut 1 "}, {6, "cut 10 "}, {6, "cut -1 "}} {
		n := mostLine - len(x.line)%2 // the greatest that the digits of bytes can make of it
		takes(t, with(l, x.at, sized(x.line, n)))
		tells(t, with(l, x.at, sized(x.line, n+2)), api.ErrBytes, x.at)
	}
}

// P23.2: lines with just MaxLine bytes, and with one more, of whatever form, at each place.
func TestMaxLineWrong(t *testing.T) {
	l := example()
	last := len(l)
	for at := 1; at <= last; at++ {
		for _, b := range []string{"0", " ", "x", "\x00", "-"} {
			for _, begin := range []string{"", "chip 8 1 2 3 1 0 0", "key ", "own ", "bump ", "boot 0"} {
				if begin == "boot 0" && b == "0" || begin == "own " && b == "0" {
					continue // a right one
				}
				tells(t, with(l, at, begin+strings.Repeat(b, mostLine-len(begin))), api.ErrForm, at)
				tells(t, with(l, at, begin+strings.Repeat(b, mostLine+1-len(begin))), api.ErrBytes, at)
			}
		}
	}
}

// P23.2: a line that is too long, and has no line feed; one of just MaxLine bytes without one.
func TestMaxLineNoLineFeed(t *testing.T) {
	l := example()
	for n := range l {
		head := text(l[:n]...)
		for _, begin := range []string{"boot ", "stage ", "own ", "key 0 ", "fly"} {
			tells(t, head+begin+strings.Repeat("0", mostLine-len(begin)), api.ErrForm, n+1)
			tells(t, head+begin+strings.Repeat("0", mostLine+1-len(begin)), api.ErrBytes, n+1)
			tells(t, head+begin+strings.Repeat("0", mostLine+2-len(begin)), api.ErrBytes, n+1)
		}
	}
}

// P23.2: a line that is too long behind one that is wrong, and the other way round.
func TestMaxLineFirst(t *testing.T) {
	l := example()
	great := "boot " + strings.Repeat("0", mostLine)
	for i := 1; i <= len(l); i++ {
		for k := i + 1; k <= len(l); k++ {
			x := slices.Clone(l)
			x[i-1], x[k-1] = "fly", great
			tells(t, text(x...), api.ErrForm, i)
			x[i-1], x[k-1] = great, "fly"
			tells(t, text(x...), api.ErrBytes, i)
			x[k-1] = great
			tells(t, text(x...), api.ErrBytes, i)
		}
	}
	tells(t, text(l[0])+great, api.ErrBytes, 2)
}

// P23.2: how many lines there are is not asked.
func TestManyLines(t *testing.T) {
	l := slices.Concat([]string{"chip 1 1 1 1 1 1 1"}, slices.Repeat([]string{"key 1 01"}, 3000), []string{"own -"}, slices.Repeat([]string{"bump 0", "cut 1 ff", "start"}, 3000))
	s := takes(t, text(l...))
	if len(s.Secrets) != 3000 || len(s.Steps) != 9000 {
		t.Errorf("%d keys, %d steps", len(s.Secrets), len(s.Steps))
	}
	tells(t, text(append(l, "bump")...), api.ErrForm, 12003)
}
