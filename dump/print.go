package dump

import (
	"strconv"

	"portcullis/api"
)

// textOf tells the text of a chip of that config.
func textOf(c api.Config, s api.Chip) []byte {
	numbers := numbersOf(c)
	b := appendLine(nil, chipWord, numbers[:]...)
	b = appendLine(b, blownWord, blownOf(s)...)
	for p, page := range s.Pages {
		b = appendLine(b, pageWord, p, s.Erases[p])
		b = appendCells(b, page)
	}
	return b
}

// blownOf tells the numbers of the fuses that are blown.
func blownOf(s api.Chip) []int {
	var l []int
	for i, is := range s.Blown {
		if is {
			l = append(l, i)
		}
	}
	return l
}

func appendLine(b []byte, word string, numbers ...int) []byte {
	return append(appendWords(b, word, numbers...), '\n')
}

func appendCells(b []byte, page []api.Cell) []byte {
	empty := blank()
	for i, x := range page {
		if x == empty {
			continue
		}
		b = appendWords(b, cellWord, i)
		b = append(b, ' ')
		b = appendBytes(b, x)
		b = append(b, '\n')
	}
	return b
}

// appendWords lays a word, and numbers with a blank ahead of each.
func appendWords(b []byte, word string, numbers ...int) []byte {
	b = append(b, word...)
	for _, n := range numbers {
		b = append(b, ' ')
		b = strconv.AppendInt(b, int64(n), 10)
	}
	return b
}

func appendBytes(b []byte, x api.Cell) []byte {
	for _, v := range x {
		b = append(b, digits[v>>4], digits[v&15])
	}
	return b
}
