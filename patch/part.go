package patch

import "slices"

// part is one of a patch's parts: it tells some bytes of the new row.
type part interface {
	size() int                   // how many bytes it tells
	tell(row, old []byte) []byte // row, and behind it what the part tells of old
	put(p []byte) []byte         // p, and behind it the part's bytes in a patch
	cut(from, to int) part       // what tells those of its bytes alone
}

// span is a copy: n bytes of the old row.
type span struct{ from, n int }

func (x span) size() int { return x.n }

func (x span) tell(row, old []byte) []byte { return append(row, old[x.from:x.from+x.n]...) }

func (x span) put(p []byte) []byte { return putNumber(putNumber(append(p, copyMark), x.from), x.n) }

func (x span) cut(from, to int) part { return span{x.from + from, to - from} }

// lay has bytes of its own.
type lay struct{ bytes []byte }

func (x lay) size() int { return len(x.bytes) }

func (x lay) tell(row, old []byte) []byte { return append(row, x.bytes...) }

func (x lay) put(p []byte) []byte {
	return append(putNumber(append(p, layMark), len(x.bytes)), x.bytes...)
}

func (x lay) cut(from, to int) part { return lay{x.bytes[from:to]} }

// goesOn tells whether a part goes on where the one ahead of it has ended: both would be one, so it may not stand there.
func goesOn(ahead, x part) bool {
	switch a := ahead.(type) {
	case span:
		b, is := x.(span)
		return is && b.from == a.from+a.n
	case lay:
		_, is := x.(lay)
		return is
	}
	return false
}

// through tells the parts that tell of any row what those of a second patch tell of what those of a first one tell of it.
func through(first, second []part) []part {
	ends := endsOf(first)
	var out []part
	for _, x := range second {
		switch x := x.(type) {
		case lay:
			out = join(out, x)
		case span:
			for _, piece := range within(first, ends, x.from, x.from+x.n) {
				out = join(out, piece)
			}
		}
	}
	return out
}

// endsOf tells of each part how many bytes it and all ahead of it tell.
func endsOf(parts []part) []int {
	ends := make([]int, len(parts))
	end := 0
	for i, x := range parts {
		end += x.size()
		ends[i] = end
	}
	return ends
}

// within tells the pieces of parts that tell the bytes from one place to another one of what the parts tell; ends is endsOf of them.
func within(parts []part, ends []int, from, to int) []part {
	var pieces []part
	i, _ := slices.BinarySearch(ends, from+1) // by halves: both patches may have very many parts
	for from < to {
		begin, end := ends[i]-parts[i].size(), min(ends[i], to)
		pieces = append(pieces, parts[i].cut(from-begin, end-begin))
		from = end
		i++
	}
	return pieces
}

// join lays a part behind others, made one with the last of them where it goes on there. A lay comes in with a copy of its bytes, since more may be appended to them.
func join(parts []part, x part) []part {
	last := len(parts) - 1
	if last >= 0 && goesOn(parts[last], x) {
		parts[last] = asOne(parts[last], x)
		return parts
	}
	if l, is := x.(lay); is {
		x = lay{slices.Clone(l.bytes)}
	}
	return append(parts, x)
}

// asOne tells two parts, of which the second goes on behind the first one, as one.
func asOne(ahead, x part) part {
	switch a := ahead.(type) {
	case span:
		return span{a.from, a.n + x.size()}
	case lay:
		b, _ := x.(lay)
		return lay{append(a.bytes, b.bytes...)}
	}
	return x
}
