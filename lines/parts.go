package lines

import (
	"strconv"
	"strings"

	"portcullis/api"
)

// part is what one word of a line stands for: a word that must be there, or a place where a value lies.
type part interface {
	size() int               // how many bytes its word has
	tell(b *strings.Builder) // tells its word
	take(word string) bool   // lays what a word says in its place; false, if that may not stand here
	empty()                  // lays zero in its place
}

// sizeOf tells how many bytes a line has, without its line feed.
func sizeOf(parts ...part) int {
	n := len(parts) - 1 // the blanks
	for _, p := range parts {
		n += p.size()
	}
	return n
}

// lay tells a line, with its line feed.
func lay(b *strings.Builder, parts ...part) {
	for i, p := range parts {
		if i > 0 {
			b.WriteByte(' ')
		}
		p.tell(b)
	}
	b.WriteByte('\n')
}

// cut cuts the words off a line, a blank between two of them, one for each part; it tells whether there are just so many, and each may stand there. (Where the line has ended too early, the word is empty, which no part takes.)
func cut(line string, parts ...part) bool {
	more := true
	for _, p := range parts {
		var word string
		word, line, more = strings.Cut(line, " ")
		if !p.take(word) {
			return false
		}
	}
	return !more
}

// fixed is a word that must be there.
type fixed string

func (x fixed) size() int               { return len(x) }
func (x fixed) tell(b *strings.Builder) { b.WriteString(string(x)) }
func (x fixed) take(word string) bool   { return word == string(x) }
func (x fixed) empty()                  {}

// number is a place of a whole number.
type number[T ~int | ~int64] struct{ at *T }

func (x number[T]) word() string            { return strconv.FormatInt(int64(*x.at), 10) }
func (x number[T]) size() int               { return len(x.word()) }
func (x number[T]) tell(b *strings.Builder) { b.WriteString(x.word()) }
func (x number[T]) empty()                  { *x.at = 0 }

// take holds the word against what the number is told as, since strconv takes more ways of writing one than there may be here.
func (x number[T]) take(word string) bool {
	n, err := strconv.ParseInt(word, 10, 64)
	*x.at = T(n)
	return err == nil && word == x.word()
}

// flag is a place of yes or no.
type flag struct{ at *bool }

func (x flag) size() int { return 1 }
func (x flag) empty()    { *x.at = false }

func (x flag) tell(b *strings.Builder) {
	if *x.at {
		b.WriteByte('1')
	} else {
		b.WriteByte('0')
	}
}

func (x flag) take(word string) bool {
	*x.at = word == "1"
	return word == "0" || word == "1"
}

// none is the word of no bytes, and of the zero hash.
const none = "-"

// row is a place of bytes.
type row struct{ at *[]byte }

func (x row) size() int               { return max(len(none), 2*len(*x.at)) }
func (x row) tell(b *strings.Builder) { tellBytes(b, *x.at) }
func (x row) empty()                  { *x.at = nil }

func (x row) take(word string) bool {
	l, is := takeBytes(word)
	*x.at = l
	return is
}

// hash is a place of a hash, which is told as bytes are, the zero one as if it had none.
type hash struct{ at *api.Hash }

func (x hash) bytes() []byte {
	if *x.at == (api.Hash{}) {
		return nil
	}
	return x.at[:]
}

func (x hash) size() int               { return max(len(none), 2*len(x.bytes())) }
func (x hash) tell(b *strings.Builder) { tellBytes(b, x.bytes()) }
func (x hash) empty()                  { *x.at = api.Hash{} }

// take takes as many bytes as a hash has, or none. Of those that are there one must not be zero: the zero hash has another word.
func (x hash) take(word string) bool {
	l, is := takeBytes(word)
	x.empty()
	n := copy(x.at[:], l)
	return is && n == len(l) && len(l) == len(x.bytes())
}
