package lines

import "strings"

const digits = "0123456789abcdef"

// tellBytes tells bytes as a word.
func tellBytes(b *strings.Builder, l []byte) {
	if len(l) == 0 {
		b.WriteString(none)
	}
	for _, v := range l {
		b.WriteByte(digits[v>>4])
		b.WriteByte(digits[v&15])
	}
}

// takeBytes tells the bytes of a word, in memory of their own, and whether it is one.
func takeBytes(word string) ([]byte, bool) {
	if word == none {
		return nil, true
	}
	if word == "" || len(word)%2 > 0 {
		return nil, false
	}
	l := make([]byte, len(word)/2)
	for i := range l {
		high, low := digit(word[2*i]), digit(word[2*i+1])
		if high < 0 || low < 0 {
			return nil, false
		}
		l[i] = byte(high<<4 | low)
	}
	return l, true
}

// digit tells what a digit of base sixteen stands for; -1, if it is none.
func digit(b byte) int {
	return strings.IndexByte(digits, b)
}
