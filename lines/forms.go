package lines

import "portcullis/api"

// The words of the lines ahead of the steps.
const (
	chipWord = "chip"
	keyWord  = "key"
	ownWord  = "own"
)

// form is the line of a kind of step: which of the step's fields stand behind the word, in their order.
type form struct {
	kind  int
	names func(*api.Step) []part
}

// forms tells the lines of steps by their words.
func forms() map[string]form {
	return map[string]form{
		"read":    {api.StepRead, justN},
		"bump":    {api.StepBump, justN},
		"bumpto":  {api.StepBumpTo, nAndV},
		"revoke":  {api.StepRevoke, justN},
		"revoked": {api.StepRevoked, justN},
		"boot":    {api.StepBoot, justBytes},
		"confirm": {api.StepConfirm, nothing},
		"stage":   {api.StepStage, justBytes},
		"start":   {api.StepStart, nothing},
		"mount":   {api.StepMount, nothing},
		"cut":     {api.StepCut, nAndBytes},
		"restore": {api.StepRestore, nothing},
		"quote":   {api.StepQuote, justBytes},
	}
}

func nothing(*api.Step) []part {
	return nil
}

func justN(s *api.Step) []part {
	return []part{number[int]{&s.N}}
}

func nAndV(s *api.Step) []part {
	return []part{number[int]{&s.N}, number[int64]{&s.V}}
}

func justBytes(s *api.Step) []part {
	return []part{row{&s.Bytes}}
}

func nAndBytes(s *api.Step) []part {
	return []part{number[int]{&s.N}, row{&s.Bytes}}
}

// named is a form with its word.
type named struct {
	word string
	form form
}

// byKind tells the same as forms, by the kinds of steps.
func byKind() map[int]named {
	l := map[int]named{}
	for word, f := range forms() {
		l[f.kind] = named{word, f}
	}
	return l
}

// What follows tells what the words of a whole line stand for: the line is told of it, and read into it.

func stepLine(word string, f form, s *api.Step) []part {
	return append([]part{fixed(word)}, f.names(s)...)
}

func chipLine(c *api.Config) []part {
	l := []part{fixed(chipWord)}
	for _, at := range []*int{&c.Cells, &c.Slots, &c.Fuses, &c.Step, &c.Keys, &c.Erases, &c.Area} {
		l = append(l, number[int]{at})
	}
	return l
}

func keyLine(k *api.Secret) []part {
	return []part{fixed(keyWord), number[int]{&k.Key}, row{&k.Bytes}}
}

func ownLine(own *[]byte) []part {
	return []part{fixed(ownWord), row{own}}
}

func answerLine(a *api.Answer) []part {
	return []part{number[api.Errno]{&a.E}, number[int64]{&a.V}, flag{&a.Is}, hash{&a.Hash}, number[int]{&a.Acts}}
}
