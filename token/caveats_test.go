package token_test

import (
	"math"

	"portcullis/token"
)

// caveats are the document's edges.
func caveats() (right, wrong []token.Caveat) {
	sort := func(is bool, l ...token.Caveat) {
		if is {
			right = append(right, l...)
		} else {
			wrong = append(wrong, l...)
		}
	}
	for _, slot := range ints() {
		is := slot >= 0 && slot < mostSlots
		sort(is, token.Caveat{Kind: token.Slot, Slot: slot}, token.Caveat{Kind: token.Least, Slot: slot, From: 3}, token.Caveat{Kind: token.Most, Slot: slot, To: 3})
	}
	for _, n := range []int64{math.MinInt64, -1, 0, 1, mostVersion, mostVersion + 1, mostValue - 1, mostValue, mostValue + 1, math.MaxInt64} {
		is := n >= 0 && n <= mostValue
		sort(is, token.Caveat{Kind: token.Least, Slot: 7, From: n}, token.Caveat{Kind: token.Most, Slot: 7, To: n})
	}
	sort(true, versions(0, 0), versions(0, 1), versions(0, mostVersion), versions(mostVersion, mostVersion), versions(3, 7), versions(7, 7), versions(mostVersion-1, mostVersion))
	sort(false, versions(1, 0), versions(8, 7), versions(7, 3), versions(mostVersion, mostVersion-1), versions(mostVersion, 0))
	sort(false, versions(-1, 0), versions(-1, -1), versions(0, -1), versions(-1, mostVersion), versions(-2, -1), versions(math.MinInt64, 5), versions(math.MinInt64, math.MinInt64))
	sort(false, versions(0, mostVersion+1), versions(mostVersion+1, mostVersion+1), versions(mostVersion+1, mostVersion), versions(mostVersion+1, 0), versions(0, math.MaxInt64), versions(math.MinInt64, math.MaxInt64))
	for bit := range 64 {
		is := bit >= 1 && bit <= 13
		sort(is, token.Caveat{Kind: token.Kinds, Set: 1 << bit}, token.Caveat{Kind: token.Kinds, Set: 1<<bit | 1<<6}, token.Caveat{Kind: token.Kinds, Set: 1<<bit | allKinds})
	}
	sort(false, token.Caveat{Kind: token.Kinds}, token.Caveat{Kind: token.Kinds, Set: math.MaxUint64})
	sort(false, noKinds()...)
	sort(false, idleFields()...)
	return right, wrong
}

func versions(from, to int64) token.Caveat {
	return token.Caveat{Kind: token.Version, From: from, To: to}
}

// noKinds are of kinds that are none, with fields that would do for each kind.
func noKinds() []token.Caveat {
	var l []token.Caveat
	for _, kind := range []int{0, 6, 7, -1, -5, 255, 256, 257, 258, 259, 260, 261, 1<<32 + 1, math.MinInt, math.MinInt + 1, math.MaxInt} {
		for _, c := range append(oneOfEach(), token.Caveat{}) {
			c.Kind = kind
			l = append(l, c)
		}
	}
	return l
}

// oneOfEach is a caveat of each kind that may be, none of whose fields that count is zero.
func oneOfEach() []token.Caveat {
	return []token.Caveat{
		{Kind: token.Slot, Slot: 1},
		{Kind: token.Version, From: 3, To: 7},
		{Kind: token.Kinds, Set: 1 << 6},
		{Kind: token.Least, Slot: 2, From: 4},
		{Kind: token.Most, Slot: 2, To: 30},
	}
}

// idleFields are of each kind with fields that don't count, alone and together, not zero.
func idleFields() []token.Caveat {
	var l []token.Caveat
	for _, c := range oneOfEach() {
		for fields := 1; fields < 16; fields++ {
			for _, n := range []int64{1, 5, -1, 1 << 32, 1 << 62, math.MinInt64} {
				x, turned := c, false
				if fields&1 != 0 && c.Slot == 0 {
					x.Slot, turned = int(n), true
				}
				if fields&2 != 0 && c.From == 0 {
					x.From, turned = n, true
				}
				if fields&4 != 0 && c.To == 0 {
					x.To, turned = n, true
				}
				if fields&8 != 0 && c.Set == 0 {
					x.Set, turned = uint64(n), true
				}
				if turned {
					l = append(l, x)
				}
			}
		}
	}
	return l
}
