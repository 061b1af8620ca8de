package token

import (
	"portcullis/api"
	"portcullis/image"
)

// What the bytes of each token begin with: four letters, and the number of the form.
const start = "PCTK\x01"

// Where the parts of a token's bytes stand, and how many bytes they have.
const (
	keyAt       = 5
	lengthAt    = 6
	countAt     = 7
	idAt        = 8
	caveatBytes = 26
	tagBytes    = 32
)

// Put tells a token as bytes.
func Put(t Token) ([]byte, api.Errno) {
	demands, may := demandsOf(t)
	if !may {
		return nil, api.ErrForm
	}
	b := append([]byte(start), byte(t.Key), byte(len(t.ID)), byte(len(demands)))
	b = append(b, t.ID...)
	for _, d := range demands {
		c := bytesOf(d)
		b = append(b, c[:]...)
	}
	return append(b, t.Tag[:]...), api.OK
}

// Get tells the token that bytes are. They are gone through from the left, part by part, until something is wrong, or nothing is left to be read.
func Get(b []byte) (Token, error) {
	var t Token
	at, e := 0, api.OK
reading:
	for {
		what, n := partAt(b, at)
		if len(b)-at < n {
			at, e = len(b), api.ErrShort
			break reading
		}
		piece := b[at : at+n]
		switch what {
		case headPart:
			if !fits(at, b[at]) {
				e = api.ErrForm
				break reading
			}
		case idPart:
			t.ID = copied(piece)
		case caveatPart:
			c := caveatOf(piece)
			if _, may := demandOf(c); !may {
				e = api.ErrForm
				break reading
			}
			t.Caveats = append(t.Caveats, c)
		case tagPart:
			copy(t.Tag[:], piece)
		case endPart:
			if at < len(b) {
				e = api.ErrRest
			}
			break reading
		}
		at += n
	}
	if e != api.OK {
		return Token{}, &image.Wrong{E: e, At: at}
	}
	t.Key = int(b[keyAt])
	return t, nil
}

// The parts of a token's bytes, in their order.
const (
	headPart = iota // one byte of those ahead of the ID
	idPart
	caveatPart
	tagPart
	endPart
)

// partAt tells which part begins at a place, and how many bytes it has, all parts ahead of it having been read: behind the head that hangs on the numbers in it. Each part but the end has at least one byte, so that reading ends.
func partAt(b []byte, at int) (what, n int) {
	if at < idAt {
		return headPart, 1
	}
	length := int(b[lengthAt])
	tagAt := idAt + length + int(b[countAt])*caveatBytes
	switch {
	case at == idAt:
		return idPart, length
	case at < tagAt:
		return caveatPart, caveatBytes
	case at == tagAt:
		return tagPart, tagBytes
	}
	return endPart, 0
}

// fits tells whether a byte may stand at one of the places ahead of the ID.
func fits(at int, v byte) bool {
	switch at {
	case keyAt:
		return v < api.MaxKeys
	case lengthAt:
		return v >= 1 && v <= mostID
	case countAt:
		return v <= mostCaveats
	}
	return v == start[at]
}

// bytesOf tells the bytes of the caveat that asks this.
func bytesOf(d demand) [caveatBytes]byte {
	switch x := d.(type) {
	case atSlot:
		return laid(Caveat{Kind: Slot, Slot: x.slot})
	case inVersions:
		return laid(Caveat{Kind: Version, From: x.from, To: x.to})
	case ofKinds:
		return laid(Caveat{Kind: Kinds, Set: x.set})
	case atLeast:
		return laid(Caveat{Kind: Least, Slot: x.slot, From: x.from})
	case atMost:
		return laid(Caveat{Kind: Most, Slot: x.slot, To: x.to})
	}
	return [caveatBytes]byte{}
}

// laid tells a caveat's fields as bytes, a number's lowest byte first.
func laid(c Caveat) [caveatBytes]byte {
	b := [caveatBytes]byte{byte(c.Kind), byte(c.Slot)}
	lay(b[2:10], uint64(c.From))
	lay(b[10:18], uint64(c.To))
	lay(b[18:], c.Set)
	return b
}

// caveatOf tells the caveat that laid has laid.
func caveatOf(b []byte) Caveat {
	return Caveat{Kind: int(b[0]), Slot: int(b[1]), From: int64(number(b[2:10])), To: int64(number(b[10:18])), Set: number(b[18:])}
}

func lay(to []byte, n uint64) {
	for i := range to {
		to[i] = byte(n)
		n >>= 8
	}
}

func number(from []byte) uint64 {
	var n uint64
	for i, v := range from {
		n |= uint64(v) << (8 * i)
	}
	return n
}
