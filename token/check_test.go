package token_test

import (
	"fmt"
	"math"
	"math/rand"
	"slices"
	"testing"

	"portcullis/api"
	"portcullis/token"
)

// turned is the same tag with one bit turned.
func turned(h api.Hash, bit int) api.Hash {
	h[bit/8] ^= 1 << (bit % 8)
	return h
}

// fits is a wish that meets oneOfEach on an ordinary bench.
func fits() token.Wish { return token.Wish{Kind: 6, Slot: 1, Version: 5} }

// P24.2: a token without caveats lets whatever is wished; one with a caveat of each kind what meets them all.
func TestCheck(t *testing.T) {
	x := ordinary(t)
	for _, w := range []token.Wish{{}, fits(), {Kind: -1, Slot: -1, Version: -1}, {math.MinInt, math.MinInt, math.MinInt64}, {math.MaxInt, math.MaxInt, math.MaxInt64}} {
		x.expects(t, made(1, "id"), w, api.OK)
	}
	for _, key := range []int{0, 1, 4, 5} {
		x.expects(t, made(key, "id", oneOfEach()...), fits(), api.OK)
	}
	x.expects(t, made(1, "id", oneOfEach()...), token.Wish{Kind: 6, Slot: 0, Version: 5}, api.ErrRange)
	x.expects(t, made(1, "id", oneOfEach()...), token.Wish{Kind: 6, Slot: 1, Version: 8}, api.ErrVersion)
	x.expects(t, made(1, "id", oneOfEach()...), token.Wish{Kind: 7, Slot: 1, Version: 5}, api.ErrKind)
	x.raise(t, 2, 31)
	x.expects(t, made(1, "id", oneOfEach()...), fits(), api.ErrState)
}

// noTokens are tokens that may not be, in each way, each with its right tag.
func noTokens() []token.Token {
	var l []token.Token
	for _, key := range ints() {
		if key < 0 || key >= mostKeys {
			l = append(l, made(key, "id"), made(key, "id", oneOfEach()...))
		}
	}
	for _, n := range []int{0, 65, 66, 128, 256, 257, 300, 1 << 16} {
		l = append(l, made(1, string(make([]byte, n))))
	}
	l = append(l, token.Token{Key: 1, Tag: rightTag(secretOf(1), token.Token{})}, token.Token{})
	for _, n := range []int{33, 34, 64, 256, 257, 288} {
		l = append(l, made(1, "id", slices.Repeat(oneOfEach(), n)[:n]...))
	}
	_, wrong := caveats()
	for i, c := range wrong {
		l = append(l, made(1, "id", c))
		if i%9 == 0 {
			l = append(l, made(1, "id", append(oneOfEach(), c)...), made(1, "id", slices.Insert(oneOfEach(), 2, c)...), made(1, "id", slices.Insert(slices.Repeat(oneOfEach(), 7)[:31], i%32, c)...))
		}
	}
	return l
}

// P24.2: ErrForm, of tokens that may not be in each way, whatever else is wrong.
func TestCheckForm(t *testing.T) {
	x := ordinary(t)
	for _, k := range noTokens() {
		x.expects(t, k, fits(), api.ErrForm)
		x.expects(t, k, token.Wish{}, api.ErrForm)
		k.Tag = turned(k.Tag, 5)
		x.expects(t, k, fits(), api.ErrForm)
		for _, key := range []int{2, 3, 7, 9, 63} { // revoked, not the ring's, not the chip's, neither's
			if k.Key == 1 {
				y := k
				y.Key = key
				x.expects(t, y, token.Wish{}, api.ErrForm)
			}
		}
	}
	right, _ := caveats()
	for _, c := range right {
		if e := x.checks(t, made(1, "id", c), fits()); e == api.ErrForm {
			t.Fatalf("%+v: %v", c, e)
		}
	}
	for _, k := range []token.Token{made(0, "i"), made(1, string(make([]byte, 64))), made(1, "id", slices.Repeat(oneOfEach(), 7)[:32]...)} {
		x.expects(t, k, fits(), api.OK)
	}
}

// P24.2: without power ErrPower comes ahead of all others.
func TestCheckNoPower(t *testing.T) {
	x := ordinary(t)
	l := append(noTokens(), made(1, "id"), made(1, "id", oneOfEach()...), made(2, "id"), made(3, "id"), made(7, "id"), made(63, "id"), token.Token{Key: 1, ID: []byte("id")}, made(1, "id", token.Caveat{Kind: token.Least, Slot: 7}))
	x.off(t)
	for _, k := range l {
		x.expects(t, k, fits(), api.ErrPower)
		x.expects(t, k, token.Wish{}, api.ErrPower)
	}
	x.restore()
	x.expects(t, made(1, "id", oneOfEach()...), fits(), api.OK) // by the store that there was
	x.mount(t)
	for _, k := range l {
		x.checks(t, k, fits())
	}
}

// P24.2: ErrKey, of keys that the ring lacks, that the chip lacks, and that both lack.
func TestCheckKey(t *testing.T) {
	x := ordinary(t)
	x.revoke(t, 3)
	for key := range mostKeys {
		want := api.ErrKey
		switch key {
		case 0, 1, 4, 5:
			want = api.OK
		case 2:
			want = api.ErrRevoked
		}
		k := made(key, "id")
		x.expects(t, k, fits(), want)
		k.Tag = turned(k.Tag, 200)
		if want == api.OK {
			want = api.ErrTag
		}
		x.expects(t, k, fits(), want)
	}
}

// P24.2: rings without secrets and with all of them, chips of one key and of all.
func TestCheckRings(t *testing.T) {
	for _, keys := range []int{1, 2, 63, 64} {
		for _, known := range [][]int{nil, {0}, {63}, upTo(mostKeys)} {
			x := benchOf(t, api.Config{Cells: 4, Slots: 1, Fuses: 1, Step: 1, Keys: keys, Erases: 1}, known...)
			for key := range mostKeys {
				want := api.ErrKey
				if key < keys && slices.Contains(known, key) {
					want = api.OK
				}
				x.expects(t, made(key, "id"), fits(), want)
			}
		}
	}
}

// P24.2: ErrRevoked, ahead of the tag and of the caveats; other keys are let as they were.
func TestCheckRevoked(t *testing.T) {
	x := ordinary(t)
	for _, key := range []int{0, 1, 4, 5} {
		k := made(key, "id", oneOfEach()...)
		x.expects(t, k, fits(), api.OK)
		x.revoke(t, key)
		x.expects(t, k, fits(), api.ErrRevoked)
		x.expects(t, k, token.Wish{}, api.ErrRevoked)
		k.Tag = turned(k.Tag, 0)
		x.expects(t, k, token.Wish{}, api.ErrRevoked)
	}
}

// P24.2, P24.5: ErrTag, of a tag with any bit turned, and of other tags.
func TestCheckTag(t *testing.T) {
	x := ordinary(t)
	for _, k := range []token.Token{made(1, "id"), made(1, "id", oneOfEach()...)} {
		for bit := range 256 {
			y := k
			y.Tag = turned(k.Tag, bit)
			x.expects(t, y, fits(), api.ErrTag)
			x.expects(t, y, token.Wish{}, api.ErrTag)
		}
		for _, tag := range []api.Hash{{}, made(4, "id", k.Caveats...).Tag, made(1, "ie", k.Caveats...).Tag, made(1, "i", k.Caveats...).Tag, tagOf(secretOf(1), bytesOf(k)), tagOf(nil, k.ID)} {
			y := k
			y.Tag = tag
			x.expects(t, y, fits(), api.ErrTag)
		}
		y := k
		y.Key = 4
		x.expects(t, y, fits(), api.ErrTag)
		for i := range 2 {
			y := again(k)
			y.ID[i]++
			x.expects(t, y, fits(), api.ErrTag)
		}
		for _, id := range []string{"i", "d", "di", "id\x00", "\x00id", "idid", "id\x02id"} {
			y := k
			y.ID = []byte(id)
			x.expects(t, y, fits(), api.ErrTag)
		}
	}
}

// P24.2, P24.5: ErrTag, of caveats left out, put in, put in another order, or turned in one field.
func TestCheckTagCaveats(t *testing.T) {
	x := ordinary(t)
	right, _ := caveats()
	k := made(1, "id", oneOfEach()...)
	with := func(l []token.Caveat) {
		t.Helper()
		y := k
		y.Caveats = l
		x.expects(t, y, fits(), api.ErrTag)
		x.expects(t, y, token.Wish{}, api.ErrTag)
	}
	with(nil)
	for i := range oneOfEach() {
		with(slices.Delete(oneOfEach(), i, i+1))
		with(oneOfEach()[:i])
		with(oneOfEach()[i+1:])
		with(slices.Insert(oneOfEach(), i, oneOfEach()[i])) // twice the same
		for j := range i {
			l := oneOfEach()
			l[i], l[j] = l[j], l[i]
			with(l)
		}
		for _, c := range right {
			with(slices.Insert(oneOfEach(), i, c))
			if c != oneOfEach()[i] {
				l := oneOfEach()
				l[i] = c
				with(l)
			}
		}
	}
	for _, c := range right {
		with(append(oneOfEach(), c))
	}
	for _, x := range []struct {
		at int
		c  token.Caveat
	}{
		{0, token.Caveat{Kind: token.Slot, Slot: 2}},
		{1, versions(2, 7)}, {1, versions(3, 8)},
		{2, token.Caveat{Kind: token.Kinds, Set: 1<<6 | 1<<7}},
		{3, token.Caveat{Kind: token.Least, Slot: 1, From: 4}}, {3, token.Caveat{Kind: token.Least, Slot: 2, From: 3}}, {3, token.Caveat{Kind: token.Most, Slot: 2, To: 4}},
		{4, token.Caveat{Kind: token.Most, Slot: 2, To: 31}}, {4, token.Caveat{Kind: token.Least, Slot: 2, From: 30}},
	} {
		l := oneOfEach()
		l[x.at] = x.c
		with(l)
	}
	x.expects(t, k, fits(), api.OK)
}

// P24.2: each kind of caveat, met and not met at its edges.
func TestCheckMet(t *testing.T) {
	x := ordinary(t)
	one := func(c token.Caveat, w token.Wish, want api.Errno) {
		t.Helper()
		x.expects(t, made(1, "id", c), w, want)
	}
	for slot := range mostSlots {
		for _, is := range append(ints(), upTo(9)...) {
			want := api.ErrRange
			if is == slot {
				want = api.OK
			}
			one(token.Caveat{Kind: token.Slot, Slot: slot}, token.Wish{Slot: is}, want)
		}
	}
	for _, v := range [][2]int64{{0, 0}, {0, 7}, {3, 7}, {5, 5}, {mostVersion, mostVersion}, {1, mostVersion}, {0, mostVersion}} {
		for _, is := range []int64{v[0] - 1, v[0], v[0] + 1, v[1] - 1, v[1], v[1] + 1, -1, 0, mostVersion, mostVersion + 1, v[0] - 1<<32, v[0] + 1<<32, math.MinInt64, math.MaxInt64} {
			want := api.ErrVersion
			if is >= v[0] && is <= v[1] {
				want = api.OK
			}
			one(versions(v[0], v[1]), token.Wish{Version: is}, want)
		}
	}
	for bit := 1; bit <= 13; bit++ {
		for _, kind := range append(ints(), upTo(70)...) {
			alone, rest := api.ErrKind, api.ErrKind
			if kind == bit {
				alone = api.OK
			} else if kind >= 1 && kind <= 13 {
				rest = api.OK
			}
			one(token.Caveat{Kind: token.Kinds, Set: 1 << bit}, token.Wish{Kind: kind}, alone)
			one(token.Caveat{Kind: token.Kinds, Set: allKinds &^ (1 << bit)}, token.Wish{Kind: kind}, rest)
			one(token.Caveat{Kind: token.Kinds, Set: allKinds}, token.Wish{Kind: kind}, min(alone, rest))
		}
	}
}

// P24.2: a slot's value just at From and To, one below and one above, and slots that the chip lacks.
func TestCheckValues(t *testing.T) {
	x := ordinary(t)
	one := func(c token.Caveat, want api.Errno) {
		t.Helper()
		for _, w := range []token.Wish{{}, fits(), {Kind: -1, Slot: c.Slot, Version: 20}} {
			x.expects(t, made(1, "id", c), w, want)
		}
	}
	for slot, v := range map[int]int64{0: 0, 1: 5, 2: 20} {
		for _, n := range []int64{0, 1, v - 1, v, v + 1, 1000, mostValue} {
			least, most := api.OK, api.OK
			if v < n {
				least = api.ErrState
			}
			if v > n {
				most = api.ErrState
			}
			if n >= 0 {
				one(token.Caveat{Kind: token.Least, Slot: slot, From: n}, least)
				one(token.Caveat{Kind: token.Most, Slot: slot, To: n}, most)
			}
		}
	}
	for slot := 3; slot < mostSlots; slot++ {
		for _, n := range []int64{0, 1, 20, mostValue} {
			one(token.Caveat{Kind: token.Least, Slot: slot, From: n}, api.ErrRange)
			one(token.Caveat{Kind: token.Most, Slot: slot, To: n}, api.ErrRange)
		}
	}
	for slots := 1; slots <= mostSlots; slots++ {
		x = benchOf(t, api.Config{Cells: 11, Slots: slots, Fuses: 1, Step: 1, Keys: 2, Erases: 1}, 1)
		if e := x.store.Activate(7); e != api.OK { // the log has a slot behind the counters', which is none of them
			t.Fatal(e)
		}
		for slot := range mostSlots {
			want := api.OK
			if slot >= slots {
				want = api.ErrRange
			}
			one(token.Caveat{Kind: token.Least, Slot: slot}, want)
			one(token.Caveat{Kind: token.Most, Slot: slot, To: mostValue}, want)
		}
	}
}

// P24.2: of two caveats that are not met the first tells; one that is met tells nothing.
func TestCheckFirst(t *testing.T) {
	x := ordinary(t)
	met := oneOfEach()
	not := []token.Caveat{{Kind: token.Slot}, {Kind: token.Version, From: 6, To: 7}, {Kind: token.Kinds, Set: 1 << 7}, {Kind: token.Least, Slot: 2, From: 21}, {Kind: token.Most, Slot: 2, To: 19}, {Kind: token.Least, Slot: 3}, {Kind: token.Most, Slot: 7, To: mostValue}}
	errs := []api.Errno{api.ErrRange, api.ErrVersion, api.ErrKind, api.ErrState, api.ErrState, api.ErrRange, api.ErrRange}
	for i, a := range not {
		x.expects(t, made(1, "id", a), fits(), errs[i])
		for _, b := range not {
			x.expects(t, made(1, "id", a, b), fits(), errs[i])
			for _, c := range met {
				x.expects(t, made(1, "id", c, a, b), fits(), errs[i])
				x.expects(t, made(1, "id", a, c, b), fits(), errs[i])
				x.expects(t, made(1, "id", a, b, c), fits(), errs[i])
			}
		}
		l := slices.Repeat(met, 7)[:31]
		for at := range 32 {
			x.expects(t, made(1, "id", slices.Insert(slices.Clone(l), at, a)...), fits(), errs[i])
		}
	}
}

// P24.2: each error beside all that stand behind it, and beside each some of them.
func TestOrderOfErrors(t *testing.T) {
	order := []api.Errno{api.ErrPower, api.ErrForm, api.ErrKey, api.ErrRevoked, api.ErrTag, api.ErrVersion}
	for wrong := range 1 << len(order) {
		x := ordinary(t)
		k := made(1, "id", versions(3, 7))
		w := fits()
		has := func(e api.Errno) bool { return wrong>>slices.Index(order, e)&1 == 1 }
		if has(api.ErrKey) {
			k = made(3, "id", versions(3, 7))
		}
		if has(api.ErrVersion) {
			w.Version = 8
		}
		if has(api.ErrTag) {
			k.Tag = turned(k.Tag, 100)
		}
		if has(api.ErrRevoked) {
			x.revoke(t, k.Key)
		}
		if has(api.ErrForm) {
			k.Caveats = append(k.Caveats, token.Caveat{})
		}
		if has(api.ErrPower) {
			x.off(t)
		}
		want := api.OK
		for _, e := range slices.Backward(order) {
			if has(e) {
				want = e
			}
		}
		x.expects(t, k, w, want)
	}
}

// P24.2: a slot's value as it rises, key by key revoked, over blank chips of all sizes.
func TestCheckBehindBumps(t *testing.T) {
	for _, slots := range []int{1, 2, 8} {
		x := benchOf(t, api.Config{Cells: slots + 3, Slots: slots, Fuses: 8, Step: 2, Keys: 4, Erases: 100}, 0, 1, 2, 3)
		slot := slots - 1
		for v := int64(0); v <= x.store.Last(); v++ {
			x.raise(t, slot, v)
			for n := range int64(20) {
				least, most := api.OK, api.OK
				if v < n {
					least = api.ErrState
				}
				if v > n {
					most = api.ErrState
				}
				x.expects(t, made(1, "id", token.Caveat{Kind: token.Least, Slot: slot, From: n}), fits(), least)
				x.expects(t, made(1, "id", token.Caveat{Kind: token.Most, Slot: slot, To: n}), fits(), most)
			}
		}
		for key := range 4 {
			for other := range 4 {
				want := api.OK
				if other < key {
					want = api.ErrRevoked
				}
				x.expects(t, made(other, "id"), fits(), want)
			}
			x.revoke(t, key)
		}
	}
}

// P24.2: behind a bump at which the power went with no bit done, or with all of them: the value is what it was, or the new one.
func TestCheckBehindCuts(t *testing.T) {
	for _, mask := range [][]byte{nil, {0x0f}, {0xff}} {
		x := ordinary(t)
		six := made(1, "id", token.Caveat{Kind: token.Least, Slot: 1, From: 6})
		five := made(1, "id", token.Caveat{Kind: token.Most, Slot: 1, To: 5})
		x.expects(t, six, fits(), api.ErrState)
		x.expects(t, five, fits(), api.OK)
		x.chip.Cut(0, mask)
		x.expects(t, five, fits(), api.OK) // a cut that waits comes no nearer
		if e := x.store.BumpTo(1, 6); e != api.ErrPower {
			t.Fatal(e)
		}
		x.out = true
		x.expects(t, five, fits(), api.ErrPower)
		x.expects(t, token.Token{}, fits(), api.ErrPower)
		x.restore()
		x.mount(t)
		if len(mask) > 0 && mask[0] == 0xff {
			x.values[1] = 6
			x.expects(t, six, fits(), api.OK)
			x.expects(t, five, fits(), api.ErrState)
		} else {
			x.expects(t, six, fits(), api.ErrState)
			x.expects(t, five, fits(), api.OK)
		}
		x.chip.Cut(0, mask)
		if e := x.store.Revoke(1); e != api.ErrPower {
			t.Fatal(e)
		}
		x.out = true
		x.expects(t, five, fits(), api.ErrPower)
		x.restore()
		x.mount(t)
		if len(mask) > 0 {
			x.revoked = append(x.revoked, 1)
			x.expects(t, five, fits(), api.ErrRevoked)
		} else {
			x.expects(t, five, fits(), api.OK)
		}
	}
}

// anyActs does something to a chip that a test need not know: what a slot's value is and which keys are revoked, the store tells then.
func anyActs(t *testing.T, r *rand.Rand, x *bench) {
	t.Helper()
	if r.Intn(3) == 0 {
		x.chip.Cut(r.Intn(5), anyBytes(r, r.Intn(40)))
	}
	for range 1 + r.Intn(6) {
		switch r.Intn(4) {
		case 0:
			x.store.Bump(r.Intn(x.config.Slots))
		case 1:
			x.store.BumpTo(r.Intn(x.config.Slots), r.Int63n(30))
		case 2:
			if r.Intn(5) == 0 {
				x.store.Revoke(r.Intn(x.config.Keys))
			}
		case 3:
			x.store.Activate(r.Int63n(9))
		}
	}
	x.out = x.chip.Out()
}

// knows takes over what the store tells.
func (x *bench) knows(t *testing.T) {
	t.Helper()
	x.revoked = nil
	for slot := range x.values {
		v, e := x.store.Read(slot)
		if e != api.OK {
			t.Fatal(e)
		}
		x.values[slot] = v
	}
	for key := range x.config.Keys {
		if is, e := x.store.Revoked(key); is {
			x.revoked = append(x.revoked, key)
		} else if e != api.OK {
			t.Fatal(e)
		}
	}
}

// P24.2: any tokens and wishes, behind any bumps, revocations, cuts and restorings.
func TestCheckAny(t *testing.T) {
	r := rand.New(rand.NewSource(244))
	seen := map[api.Errno]int{}
	for range 60 {
		slots, keys := 1+r.Intn(4), 1+r.Intn(6)
		x := benchOf(t, api.Config{Cells: slots + 3 + r.Intn(3), Slots: slots, Fuses: 8, Step: 4, Keys: keys, Erases: 50}, r.Perm(7)[:4]...)
		for range 8 {
			anyActs(t, r, x)
			for more := true; more; more = x.out {
				if x.out && r.Intn(3) > 0 {
					x.restore()
					x.mount(t)
				}
				if !x.out {
					x.knows(t)
				}
				for range 30 {
					seen[x.checks(t, spoilt(r, easyToken(r, x)), anyWish(r))]++
				}
			}
		}
	}
	for _, e := range []api.Errno{api.OK, api.ErrPower, api.ErrForm, api.ErrKey, api.ErrRevoked, api.ErrTag, api.ErrRange, api.ErrVersion, api.ErrKind, api.ErrState} {
		if seen[e] < 50 {
			t.Errorf("%v was answered %d times", e, seen[e])
		}
	}
}

// spoilt is a token as it was, or turned somewhere.
func spoilt(r *rand.Rand, k token.Token) token.Token {
	k = again(k)
	n := len(k.Caveats)
	switch r.Intn(16) {
	case 0:
		k.Tag = turned(k.Tag, r.Intn(256))
	case 1:
		k.ID[r.Intn(len(k.ID))]++
	case 2:
		k.Key = anyOf(r, ints()...)
	case 3:
		if n > 0 {
			k.Caveats[r.Intn(n)] = wildCaveat(r)
		}
	case 4:
		k.Caveats = append(k.Caveats, wildCaveat(r))
	case 5:
		if n > 0 {
			k.Caveats = k.Caveats[:n-1]
		}
	case 6:
		k.ID = anyBytes(r, anyOf(r, 0, 64, 65))
	}
	return k
}

// P24.2: no act is done: a chip holds what it held, and a cut that waits comes no nearer.
func TestCheckNoAct(t *testing.T) {
	x := ordinary(t)
	held := fmt.Sprint(x.chip.State())
	x.chip.Cut(0, []byte{0xff})
	l := append(noTokens(), made(1, "id"), made(1, "id", oneOfEach()...), made(2, "id"), made(3, "id"), token.Token{Key: 1, ID: []byte("id")})
	for _, k := range l {
		x.checks(t, k, fits())
		x.checks(t, k, token.Wish{})
	}
	if fmt.Sprint(x.chip.State()) != held {
		t.Error("the chip was changed")
	}
	if e := x.chip.Blow(0); e != api.ErrPower {
		t.Errorf("the cut waits no more: %v", e)
	}
}
