package lines

import (
	"iter"
	"strings"

	"portcullis/api"
)

// writer tells the lines of scripts. What it is given it looks at in copies alone: their parts could write.
type writer struct {
	forms map[int]named
}

// check tells what is wrong with the first step that no line can tell whole.
func (w writer) check(l []api.Step) api.Errno {
	for _, s := range l {
		n, is := w.forms[s.Kind]
		if !is {
			return api.ErrKind
		}
		for _, p := range n.form.names(&s) {
			p.empty()
		}
		if s.N != 0 || s.V != 0 || len(s.Bytes) > 0 {
			return api.ErrArg
		}
	}
	return api.OK
}

// size tells how many bytes a script's text has, unless a line of it is too long.
func (w writer) size(s Script) (int, api.Errno) {
	all := 0
	for line := range w.lines(s) {
		n := sizeOf(line...)
		if n > api.MaxLine {
			return 0, api.ErrBytes
		}
		all += n + 1
	}
	return all, api.OK
}

// lines goes through a script's lines, each as its parts. The script's steps are of kinds that there are.
func (w writer) lines(s Script) iter.Seq[[]part] {
	return func(yield func([]part) bool) {
		if !yield(chipLine(&s.Config)) {
			return
		}
		for _, k := range s.Secrets {
			if !yield(keyLine(&k)) {
				return
			}
		}
		if !yield(ownLine(&s.Own)) {
			return
		}
		for _, x := range s.Steps {
			n := w.forms[x.Kind]
			if !yield(stepLine(n.word, n.form, &x)) {
				return
			}
		}
	}
}

// reader makes a script of lines, one behind the other.
type reader struct {
	forms  map[string]form
	script Script
	begun  bool // the chip's line has come
	owned  bool // the own one, too
}

// take takes the next line; false, if it isn't of the form that must stand there.
func (r *reader) take(line string) bool {
	switch {
	case !r.begun:
		r.begun = true
		return cut(line, chipLine(&r.script.Config)...)
	case r.owned:
		return r.takeStep(line)
	case strings.HasPrefix(line, ownWord):
		r.owned = true
		return cut(line, ownLine(&r.script.Own)...)
	}
	return r.takeKey(line)
}

func (r *reader) takeKey(line string) bool {
	var k api.Secret
	if !cut(line, keyLine(&k)...) {
		return false
	}
	r.script.Secrets = append(r.script.Secrets, k)
	return true
}

func (r *reader) takeStep(line string) bool {
	word, _, _ := strings.Cut(line, " ")
	f, is := r.forms[word]
	s := api.Step{Kind: f.kind}
	if !is || !cut(line, stepLine(word, f, &s)...) {
		return false
	}
	r.script.Steps = append(r.script.Steps, s)
	return true
}
