package patch

import "portcullis/api"

// What each patch begins with: four letters, and the number of the form.
const start = "PCPT\x01"

// Where the parts of a head stand.
const (
	oldAt    = 5
	newAt    = 37
	beforeAt = 69
	afterAt  = 73
	partsAt  = 77
)

// What the parts begin with, and how many bytes they have, a lay without those that it lays.
const (
	copyMark  = 1
	layMark   = 2
	copyBytes = 9
	layBytes  = 5
)

const numberBytes = 4

// take takes a patch apart: what it says of itself, and its parts; or the first thing that is wrong.
func take(p []byte) (Info, []part, *Wrong) {
	info, w := takeHead(p)
	if w != nil {
		return Info{}, nil, w
	}
	r := reader{p: p, at: partsAt, before: info.Before, left: info.After}
	var parts []part
	for r.left > 0 {
		x, w := r.next()
		if w != nil {
			return Info{}, nil, w
		}
		parts = append(parts, x)
	}
	if r.at < len(p) {
		return Info{}, nil, &Wrong{api.ErrRest, r.at}
	}
	info.Parts, info.Laid = len(parts), laid(parts)
	return info, parts, nil
}

// takeHead tells what stands ahead of the parts.
func takeHead(p []byte) (Info, *Wrong) {
	for at := range min(len(p), len(start)) {
		if p[at] != start[at] {
			return Info{}, &Wrong{api.ErrForm, at}
		}
	}
	before, w := takeLength(p, beforeAt)
	if w != nil {
		return Info{}, w
	}
	after, w := takeLength(p, afterAt)
	if w != nil {
		return Info{}, w
	}
	info := Info{Before: before, After: after}
	copy(info.Old[:], p[oldAt:newAt])
	copy(info.New[:], p[newAt:beforeAt])
	return info, nil
}

// takeLength tells how many bytes a row has.
func takeLength(p []byte, at int) (int, *Wrong) {
	if len(p) < at+numberBytes {
		return 0, &Wrong{api.ErrShort, len(p)}
	}
	n := number(p, at)
	if n > api.MaxImage {
		return 0, &Wrong{api.ErrForm, at}
	}
	return int(n), nil
}

// laid tells how many bytes the lays have together.
func laid(parts []part) int {
	n := 0
	for _, x := range parts {
		if l, is := x.(lay); is {
			n += len(l.bytes)
		}
	}
	return n
}

// reader goes through a patch, part by part.
type reader struct {
	p      []byte
	at     int  // where the next part begins
	before int  // bytes of the old row
	left   int  // bytes of the new row that the parts so far don't tell
	ahead  part // the last one that was read; nil, if none was
}

// next tells the next part.
func (r *reader) next() (part, *Wrong) {
	x, n, w := r.look()
	if w != nil {
		return nil, w
	}
	r.at += n
	r.left -= x.size()
	r.ahead = x
	return x, nil
}

// look tells the next part, and how many bytes of the patch it has.
func (r *reader) look() (part, int, *Wrong) {
	if r.at == len(r.p) {
		return nil, 0, r.short()
	}
	switch r.p[r.at] {
	case copyMark:
		return r.lookCopy()
	case layMark:
		return r.lookLay()
	}
	return nil, 0, r.form()
}

func (r *reader) lookCopy() (part, int, *Wrong) {
	if len(r.p)-r.at < copyBytes {
		return nil, 0, r.short()
	}
	from, n := number(r.p, r.at+1), number(r.p, r.at+1+numberBytes)
	if !r.fits(n) || from+n > uint64(r.before) {
		return nil, 0, r.form()
	}
	x := span{int(from), int(n)}
	if goesOn(r.ahead, x) {
		return nil, 0, r.form()
	}
	return x, copyBytes, nil
}

func (r *reader) lookLay() (part, int, *Wrong) {
	if len(r.p)-r.at < layBytes {
		return nil, 0, r.short()
	}
	n := number(r.p, r.at+1)
	if !r.fits(n) || goesOn(r.ahead, lay{}) {
		return nil, 0, r.form()
	}
	rest := r.p[r.at+layBytes:]
	if uint64(len(rest)) < n {
		return nil, 0, r.short()
	}
	return lay{rest[:n]}, layBytes + int(n), nil
}

// fits tells whether the next part may have so many bytes.
func (r *reader) fits(n uint64) bool { return 1 <= n && n <= uint64(r.left) }

func (r *reader) short() *Wrong { return &Wrong{api.ErrShort, len(r.p)} }

func (r *reader) form() *Wrong { return &Wrong{api.ErrForm, r.at} }

// putHead tells what stands ahead of a patch's parts.
func putHead(info Info) []byte {
	p := append([]byte(start), info.Old[:]...)
	p = append(p, info.New[:]...)
	return putNumber(putNumber(p, info.Before), info.After)
}

// putAll tells p, and behind it the parts' bytes.
func putAll(p []byte, parts []part) []byte {
	for _, x := range parts {
		p = x.put(p)
	}
	return p
}

// putNumber tells p, and behind it a number, its lowest byte first.
func putNumber(p []byte, n int) []byte {
	for range numberBytes {
		p = append(p, byte(n))
		n >>= 8
	}
	return p
}

// number tells the number at a place, in more bits than it has there, so that no sum of two wraps round.
func number(p []byte, at int) uint64 {
	var n uint64
	for i, v := range p[at : at+numberBytes] {
		n |= uint64(v) << (8 * i)
	}
	return n
}
