package drive_test

import (
	"math/rand"

	"portcullis/api"
)

// anyImage is one that may be started more often than not.
func anyImage(r *rand.Rand, g api.Config) []byte {
	key, slot, version := r.Intn(3), r.Intn(g.Slots), r.Int63n(12)
	b := right(slot, key, version, row(r, r.Intn(min(max(size(g)-47, 20), 600)))...)
	switch r.Intn(16) {
	case 0:
		return nil
	case 1:
		return turned(b, r.Intn(8*len(b)))
	case 2:
		return append(b, row(r, r.Intn(200))...)
	case 3:
		return b[:r.Intn(len(b))]
	case 4:
		return row(r, r.Intn(100))
	case 5:
		return by(r.Intn(4), slot, key, version, nil)
	}
	return b
}

// anyStep is one of any kind that asks a rom.
func anyStep(r *rand.Rand, g api.Config) api.Step {
	slot, key := r.Intn(g.Slots+2)-1, r.Intn(g.Keys+2)-1
	switch r.Intn(15) {
	case 0, 1:
		return read(slot)
	case 2, 3:
		return bump(slot)
	case 4, 14:
		v := r.Int63n(14) - 1
		if r.Intn(12) == 0 {
			v *= 100
		}
		return bumpTo(slot, v)
	case 5:
		if r.Intn(3) > 0 { // seldom, so that images are left that may be started
			return revoked(key)
		}
		return revoke(key)
	case 6:
		return revoked(key)
	case 7:
		return boot(anyImage(r, g))
	case 8, 9:
		return confirm()
	case 10, 11:
		return stage(anyImage(r, g))
	case 12:
		return start()
	}
	return quote(string(row(r, r.Intn(30))))
}

// anyMask is one of zeros, of ones, or a mixed one.
func anyMask(r *rand.Rand) []byte {
	l := masks(r)
	return l[r.Intn(len(l))]
}

// anyScript is one of so many steps, in which the power goes and comes again, and roms are mounted, more often than not where it helps.
func anyScript(r *rand.Rand, j job, n int) []api.Step {
	p := begun(j)
	var l []api.Step
	for len(l) < n {
		s := anyStep(r, j.config)
		switch {
		case p.out && r.Intn(3) > 0:
			s = restore()
		case p.out && r.Intn(3) == 0:
			s = mount()
		case !p.out && !p.rom && r.Intn(4) > 0:
			s = mount()
		case r.Intn(7) == 0:
			s = cut(r.Intn(7), anyMask(r)...)
		case r.Intn(40) == 0:
			s = []api.Step{mount(), restore(), {}, {Kind: 14}, cut(-1)}[r.Intn(5)]
		}
		p.step(s)
		l = append(l, s)
	}
	return l
}
