package lines_test

import (
	"encoding/hex"
	"fmt"
	"math/big"
	"regexp"
	"slices"
	"strings"
	"testing"

	"portcullis/api"
	"portcullis/lines"
)

// The numbers of the document, written out.
const (
	mostLine   = 1048576
	mostScript = 1024
	mostKeys   = 64
	mostSecret = 256
)

// kind is a row of the chapter's table: of the fields, N and V are numbers, B is bytes.
type kind struct {
	kind   int
	word   string
	fields string
}

func kinds() []kind {
	return []kind{
		{api.StepRead, "read", "N"},
		{api.StepBump, "bump", "N"},
		{api.StepBumpTo, "bumpto", "NV"},
		{api.StepRevoke, "revoke", "N"},
		{api.StepRevoked, "revoked", "N"},
		{api.StepBoot, "boot", "B"},
		{api.StepConfirm, "confirm", ""},
		{api.StepStage, "stage", "B"},
		{api.StepStart, "start", ""},
		{api.StepMount, "mount", ""},
		{api.StepCut, "cut", "NB"},
		{api.StepRestore, "restore", ""},
		{api.StepQuote, "quote", "B"},
	}
}

// told is bytes, by the chapter's words.
func told(b []byte) string {
	if len(b) == 0 {
		return "-"
	}
	return hex.EncodeToString(b)
}

// toldStep is a step's line, by the chapter's words.
func toldStep(s api.Step) string {
	k := kinds()[s.Kind-1]
	l := []string{k.word}
	for _, f := range k.fields {
		switch f {
		case 'N':
			l = append(l, fmt.Sprint(s.N))
		case 'V':
			l = append(l, fmt.Sprint(s.V))
		case 'B':
			l = append(l, told(s.Bytes))
		}
	}
	return strings.Join(l, " ")
}

// toldScript is a script's text, by the chapter's words.
func toldScript(s lines.Script) string {
	g := s.Config
	var b strings.Builder
	fmt.Fprintf(&b, "chip %d %d %d %d %d %d %d\n", g.Cells, g.Slots, g.Fuses, g.Step, g.Keys, g.Erases, g.Area)
	for _, k := range s.Secrets {
		fmt.Fprintf(&b, "key %d %s\n", k.Key, told(k.Bytes))
	}
	fmt.Fprintf(&b, "own %s\n", told(s.Own))
	for _, x := range s.Steps {
		fmt.Fprintf(&b, "%s\n", toldStep(x))
	}
	return b.String()
}

// toldAnswers is the text of answers, by the chapter's words.
func toldAnswers(l []api.Answer) string {
	var b strings.Builder
	for _, a := range l {
		is, h := 0, told(a.Hash[:])
		if a.Is {
			is = 1
		}
		if h == strings.Repeat("0", 64) {
			h = "-"
		}
		fmt.Fprintf(&b, "%d %d %d %s %d\n", int(a.E), a.V, is, h, a.Acts)
	}
	return b.String()
}

// The forms of the lines; how great their numbers are is asked apart.
const (
	numberForm = ` (0|-?[1-9][0-9]*)`
	bytesForm  = ` (-|(?:[0-9a-f][0-9a-f])+)`
)

func exactly(form string) *regexp.Regexp { return regexp.MustCompile(`\A` + form + `\z`) }

var (
	chipForm   = exactly("chip" + strings.Repeat(numberForm, 7))
	keyForm    = exactly("key" + numberForm + bytesForm)
	ownForm    = exactly("own" + bytesForm)
	answerForm = exactly(numberForm[1:] + numberForm + ` ([01]) (-|[0-9a-f]{64})` + numberForm)
	stepForms  = formsOfSteps()
)

func formsOfSteps() []*regexp.Regexp {
	var l []*regexp.Regexp
	for _, k := range kinds() {
		form := strings.NewReplacer("N", numberForm, "V", numberForm, "B", bytesForm).Replace(k.fields)
		l = append(l, exactly(k.word+form))
	}
	return l
}

// taker takes words of the right form. bad is set, if a number is beyond an int or an int64 (which are alike where the tests run).
type taker struct{ bad bool }

func (x *taker) number(word string) int {
	n := new(big.Int).Lsh(big.NewInt(1), 99)
	if len(word) < 30 { // big.Int takes its time
		n.SetString(word, 10)
	}
	x.bad = x.bad || !n.IsInt64()
	return int(n.Int64())
}

func (x *taker) bytes(word string) []byte {
	if word == "-" {
		return nil
	}
	b, err := hex.DecodeString(word)
	x.bad = x.bad || err != nil
	return b
}

// answer is what Parse answers.
type answer struct {
	script lines.Script
	e      api.Errno
	at     int
}

func wrong(e api.Errno, at int) answer { return answer{e: e, at: at} }

func parsed(text string) answer {
	s, e, at := lines.Parse(text)
	return answer{s, e, at}
}

func sameSecret(a, b api.Secret) bool { return a.Key == b.Key && slices.Equal(a.Bytes, b.Bytes) }

func sameStep(a, b api.Step) bool {
	return a.Kind == b.Kind && a.N == b.N && a.V == b.V && slices.Equal(a.Bytes, b.Bytes)
}

// same tells whether two scripts are alike; lists without elements are.
func same(a, b lines.Script) bool {
	return a.Config == b.Config && slices.EqualFunc(a.Secrets, b.Secrets, sameSecret) && slices.Equal(a.Own, b.Own) && slices.EqualFunc(a.Steps, b.Steps, sameStep)
}

func (a answer) same(b answer) bool { return same(a.script, b.script) && a.e == b.e && a.at == b.at }

// takeLine lays a line into the script, if it is of the form that must stand there.
func takeLine(a *answer, line string, own *bool) bool {
	var x taker
	switch {
	case a.at == 1:
		m := chipForm.FindStringSubmatch(line)
		if m == nil {
			return false
		}
		a.script.Config = api.Config{Cells: x.number(m[1]), Slots: x.number(m[2]), Fuses: x.number(m[3]), Step: x.number(m[4]), Keys: x.number(m[5]), Erases: x.number(m[6]), Area: x.number(m[7])}
	case *own:
		return takeStep(a, line)
	default:
		if m := ownForm.FindStringSubmatch(line); m != nil {
			a.script.Own, *own = x.bytes(m[1]), true
		} else if m := keyForm.FindStringSubmatch(line); m != nil {
			a.script.Secrets = append(a.script.Secrets, api.Secret{Key: x.number(m[1]), Bytes: x.bytes(m[2])})
		} else {
			return false
		}
	}
	return !x.bad
}

func takeStep(a *answer, line string) bool {
	for i, form := range stepForms {
		m := form.FindStringSubmatch(line)
		if m == nil {
			continue
		}
		var x taker
		s := api.Step{Kind: kinds()[i].kind}
		for k, f := range kinds()[i].fields {
			switch f {
			case 'N':
				s.N = x.number(m[k+1])
			case 'V':
				s.V = int64(x.number(m[k+1]))
			case 'B':
				s.Bytes = x.bytes(m[k+1])
			}
		}
		a.script.Steps = append(a.script.Steps, s)
		return !x.bad
	}
	return false
}

// words is what Parse is to answer, by the chapter's words: line by line, what must stand there.
func words(text string) answer {
	var a answer
	own := false
	all := strings.SplitAfter(text, "\n")
	if all[len(all)-1] == "" { // behind the last line feed no line begins
		all = all[:len(all)-1]
	}
	for i, line := range all {
		a.at = i + 1
		body := strings.TrimSuffix(line, "\n")
		if len(body) > mostLine {
			return wrong(api.ErrBytes, i+1)
		}
		if body == line || !takeLine(&a, body, &own) {
			return wrong(api.ErrForm, i+1)
		}
	}
	if !own {
		return wrong(api.ErrForm, len(all)+1)
	}
	a.at = 0
	return a
}

// wordsOfAnswers is what ParseAnswers is to answer, by the chapter's words.
func wordsOfAnswers(text string) ([]api.Answer, api.Errno, int) {
	var l []api.Answer
	for i, line := range strings.SplitAfter(text, "\n") {
		if line == "" {
			break
		}
		body := strings.TrimSuffix(line, "\n")
		m := answerForm.FindStringSubmatch(body)
		if body == line || m == nil || m[4] == strings.Repeat("0", 64) {
			return nil, api.ErrForm, i + 1
		}
		var x taker
		a := api.Answer{E: api.Errno(x.number(m[1])), V: int64(x.number(m[2])), Is: m[3] == "1", Acts: x.number(m[5])}
		copy(a.Hash[:], x.bytes(m[4]))
		if x.bad {
			return nil, api.ErrForm, i + 1
		}
		l = append(l, a)
	}
	return l, api.OK, 0
}

// holds holds Parse against the words; what it takes, Print must tell byte by byte. It tells whether the text was taken.
func holds(t *testing.T, text string) bool {
	t.Helper()
	got, want := parsed(text), words(text)
	if !got.same(want) {
		t.Fatalf("Parse(%q): %v at %d, want %v at %d", short(text), got.e, got.at, want.e, want.at)
	}
	if got.e != api.OK {
		return false
	}
	if back, e := lines.Print(got.script); back != text || e != api.OK {
		t.Fatalf("Print of Parse(%q): %q, %v", short(text), short(back), e)
	}
	return true
}

// answersHold is holds for answers.
func answersHold(t *testing.T, text string) bool {
	t.Helper()
	got, e, at := lines.ParseAnswers(text)
	want, wantE, wantAt := wordsOfAnswers(text)
	if !slices.Equal(got, want) || e != wantE || at != wantAt {
		t.Fatalf("ParseAnswers(%q): %v at %d, want %v at %d", short(text), e, at, wantE, wantAt)
	}
	if e != api.OK {
		return false
	}
	if back := lines.PrintAnswers(got); back != text {
		t.Fatalf("PrintAnswers of ParseAnswers(%q): %q", short(text), short(back))
	}
	return true
}

// prints is Print, which must take the script, tell what the words say, and be read back.
func prints(t *testing.T, s lines.Script) string {
	t.Helper()
	text, e := lines.Print(s)
	if want := toldScript(s); text != want || e != api.OK {
		t.Fatalf("Print: %q, %v, want %q", short(text), e, short(want))
	}
	if got := parsed(text); !got.same(answer{script: s}) {
		t.Fatalf("Parse(%q): %v at %d, another script", short(text), got.e, got.at)
	}
	return text
}

// refuses is Print, which must tell that error and nothing else.
func refuses(t *testing.T, s lines.Script, want api.Errno) {
	t.Helper()
	if text, e := lines.Print(s); text != "" || e != want {
		t.Errorf("Print(%s): %q, %v, want %v", short(fmt.Sprintf("%+v", s)), short(text), e, want)
	}
}

// tells is Parse, which must tell that error at that line, and nothing else; and so must the words, or a test is wrong.
func tells(t *testing.T, text string, e api.Errno, at int) {
	t.Helper()
	if got := parsed(text); !got.same(wrong(e, at)) {
		t.Errorf("Parse(%q): %v at %d, want %v at %d", short(text), got.e, got.at, e, at)
	}
	holds(t, text)
}

// takes is Parse, which must take the text.
func takes(t *testing.T, text string) lines.Script {
	t.Helper()
	if !holds(t, text) {
		t.Fatalf("Parse(%q) takes it not", short(text))
	}
	return parsed(text).script
}

func short(text string) string {
	if len(text) > 600 {
		return text[:600] + "..."
	}
	return text
}

// text is lines, each followed by a line feed.
func text(l ...string) string {
	if len(l) == 0 {
		return ""
	}
	return strings.Join(l, "\n") + "\n"
}

// with is those lines, of which the one of that number, from 1 on, is these.
func with(l []string, at int, by ...string) string {
	return text(slices.Concat(l[:at-1], by, l[at:])...)
}

// before is those lines, with these ahead of the one of that number.
func before(l []string, at int, by ...string) string {
	return text(slices.Concat(l[:at-1], by, l[at-1:])...)
}

// example is the chapter's text, line by line.
func example() []string {
	return []string{"chip 8 1 2 3 1 0 0", "key 0 6b", "own 6f", "bump 0", "cut 1 -", "read 0"}
}

// long is a text with every kind of line, line by line.
func long() []string {
	return []string{
		"chip -1 0 10 907 9223372036854775807 -9223372036854775808 5",
		"key 3 00ff",
		"key -3 -",
		"key 3 0123456789abcdef",
		"own 0a200d",
		"read 1",
		"bump -20",
		"bumpto 0 -9223372036854775808",
		"bumpto -7 9223372036854775807",
		"revoke 3",
		"revoked 30",
		"boot 00ab",
		"boot -",
		"confirm",
		"stage -",
		"stage 99",
		"start",
		"mount",
		"cut 7 ff",
		"cut -1 -",
		"restore",
		"quote 6e",
		"quote -",
		"read 0",
	}
}
