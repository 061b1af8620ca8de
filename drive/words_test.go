package drive_test

import (
	"bytes"
	"crypto/hmac"
	"crypto/sha256"
	"encoding/binary"
	"hash/crc32"
	"slices"

	"portcullis/api"
)

// What follows says the document's words again, by the library's SHA-256, HMAC and CRC. Each word is gone through by itself.

// The numbers of the document, written out.
const (
	mostNumber = int64(1) << 62
	mostBytes  = 524288
	mostEvents = 1024
	mostSteps  = 1024
	mostCuts   = 12
)

func ones() []byte { return []byte{0xff} }

func filled(v byte) api.Cell { return api.Cell(bytes.Repeat([]byte{v}, 32)) }

// summed lays twelve bytes, their sum, and the complement of all of them into a cell.
func summed(kind, slot byte, n int64) api.Cell {
	var c api.Cell
	b := binary.LittleEndian.AppendUint64([]byte{kind, slot, 0, 0}, uint64(n))
	b = binary.LittleEndian.AppendUint32(b, crc32.ChecksumIEEE(b))
	for i, x := range b {
		c[i], c[16+i] = x, 255-x
	}
	return c
}

func head(n int64) api.Cell { return summed(1, 0, n) }

func value(slot int, n int64) api.Cell { return summed(2, byte(slot), n) }

func number(c api.Cell) int64 { return int64(binary.LittleEndian.Uint64(c[4:12])) }

func isHead(c api.Cell) bool {
	return 1 <= number(c) && number(c) <= mostNumber && c == head(number(c))
}

func isValue(c api.Cell) bool {
	return 1 <= number(c) && number(c) <= mostNumber && c[1] <= 8 && c == value(int(c[1]), number(c))
}

func hashOf(b []byte) api.Hash { return sha256.Sum256(b) }

func tagOf(secret, b []byte) api.Hash {
	h := hmac.New(sha256.New, secret)
	h.Write(b)
	return api.Hash(h.Sum(nil))
}

// secretOf is the one of a key, wherever a rom has it.
func secretOf(key int) []byte { return []byte{byte(key), 0x5e, 0xc2} }

// by is an image by chapter 11's words, signed with the secret of whatever key.
func by(signer, slot, key int, version int64, payload []byte) []byte {
	b := []byte{0x50, 0x43, 0x55, 0x4c, 0x01, byte(slot), byte(key), 0x00}
	b = binary.LittleEndian.AppendUint32(b, uint32(version))
	b = binary.LittleEndian.AppendUint32(b, uint32(len(payload)))
	b = append(b, payload...)
	tag := tagOf(secretOf(signer), b)
	return append(b, tag[:]...)
}

// right is an image that is signed with the key that it names.
func right(slot, key int, version int64, payload ...byte) []byte {
	return by(key, slot, key, version, payload)
}

// sized is an image of the slot 0 that has so many bytes in all; no cell of it is blank.
func sized(key int, version int64, n int) []byte {
	payload := make([]byte, n-48)
	for i := range payload {
		payload[i] = byte(i) ^ byte(version)
	}
	return right(0, key, version, payload...)
}

// form is what image.Parse must say, as chapter 11 has it.
func form(b []byte) (api.Image, api.Errno) {
	if len(b) > mostBytes {
		return api.Image{}, api.ErrBytes
	}
	for at, want := range []byte{'P', 'C', 'U', 'L', 1, 7, 63, 0} {
		if at >= len(b) {
			return api.Image{}, api.ErrShort
		}
		if at != 5 && at != 6 && b[at] != want || b[at] > want {
			return api.Image{}, api.ErrForm
		}
	}
	if len(b) < 16 {
		return api.Image{}, api.ErrShort
	}
	n := int(binary.LittleEndian.Uint32(b[12:]))
	switch {
	case 48+n > mostBytes:
		return api.Image{}, api.ErrForm
	case len(b) < 48+n:
		return api.Image{}, api.ErrShort
	case len(b) > 48+n:
		return api.Image{}, api.ErrRest
	}
	version := int64(binary.LittleEndian.Uint32(b[8:]))
	return api.Image{Slot: int(b[5]), Key: int(b[6]), Version: version, Payload: b[16 : 16+n], Tag: api.Hash(b[16+n:])}, api.OK
}

// register is chapter 16's.
func register(l []api.Event) api.Hash {
	var r api.Hash
	for _, e := range l {
		x := hashOf(binary.LittleEndian.AppendUint64(slices.Clone(e.Digest[:]), uint64(e.E)))
		r = hashOf(slices.Concat(r[:], x[:]))
	}
	return r
}

// quoteOf is chapter 16's, under the chip's own key.
func quoteOf(own, nonce []byte, l []api.Event) api.Hash {
	b := append([]byte("portcullis quote"), 0)
	b = binary.LittleEndian.AppendUint32(b, uint32(len(nonce)))
	b = append(b, nonce...)
	b = binary.LittleEndian.AppendUint32(b, uint32(len(l)))
	r := register(l)
	return tagOf(own, append(b, r[:]...))
}

// words tells what a rom over a chip with power is to answer of what that holds, and which acts are done.
type words struct {
	config api.Config
	holds  api.Chip
	known  []int // the keys whose secrets the rom has
}

func same(a, b api.Chip) bool {
	return slices.EqualFunc(a.Pages, b.Pages, slices.Equal) && slices.Equal(a.Erases, b.Erases) && slices.Equal(a.Blown, b.Blown)
}

func (w words) generation(p int) int64 {
	if c := w.holds.Pages[p][0]; isHead(c) {
		return number(c)
	}
	return 0
}

func (w words) present() int {
	for p := range 2 {
		mine, other := w.generation(p), w.generation(1-p)
		if mine > 0 && (other == 0 || other < mine || other == mine && p == 0) {
			return p
		}
	}
	return -1
}

// number is the log's of a slot.
func (w words) number(slot int) int64 {
	var n int64
	if p := w.present(); p >= 0 {
		for _, c := range w.holds.Pages[p][1:] {
			if isValue(c) && int(c[1]) == slot {
				n = max(n, number(c))
			}
		}
	}
	return n
}

func (w words) active() int64 { return w.number(w.config.Slots) }

func (w words) free() int {
	free := 0
	if p := w.present(); p >= 0 {
		for _, c := range slices.Backward(w.holds.Pages[p]) {
			if c != filled(0xff) {
				break
			}
			free++
		}
	}
	return free
}

// turned is the page that a turn of the log fills.
func (w words) turned() int {
	if w.present() == 0 {
		return 1
	}
	return 0
}

func (w words) used(p int) bool {
	return slices.ContainsFunc(w.holds.Pages[p], func(c api.Cell) bool { return c != filled(0xff) })
}

// spent says that a page would have to be erased, and may not be.
func (w words) spent(p int) bool {
	return w.used(p) && w.holds.Erases[p] >= w.config.Erases
}

// full says that the log couldn't lay one number more.
func (w words) full() bool {
	p := w.present()
	return w.free() == 0 && (p >= 0 && w.generation(p) == mostNumber || w.spent(w.turned()))
}

// pages are the numbers of an area's pages.
func (w words) pages(n int) []int {
	var l []int
	for p := range w.holds.Pages {
		if p >= 2 && p < 2+w.config.Area && n == 0 || p >= 2+w.config.Area && n == 1 {
			l = append(l, p)
		}
	}
	return l
}

// image goes through all beginnings of an area's bytes.
func (w words) image(n int) []byte {
	var b []byte
	for _, p := range w.pages(n) {
		for _, x := range w.holds.Pages[p] {
			b = append(b, x[:]...)
		}
	}
	for i := range len(b) + 1 {
		if _, e := form(b[:i]); e == api.OK {
			return b[:i]
		}
	}
	return nil
}

// blown is how many fuses of a slot are.
func (w words) blown(slot int) int {
	n := 0
	for i := range w.config.Fuses {
		if w.holds.Blown[slot*w.config.Fuses+i] {
			n++
		}
	}
	return n
}

func (w words) value(slot int) int64 {
	return max(int64(w.config.Step*w.blown(slot)), w.number(slot))
}

func (w words) revoked(key int) bool {
	return w.holds.Blown[w.config.Slots*w.config.Fuses+key]
}

func (w words) last() int64 { return int64(w.config.Step*w.config.Fuses + w.config.Step - 1) }

// check is the gate's answer.
func (w words) check(b []byte) (api.Image, api.Errno) {
	x, e := form(b)
	switch {
	case e != api.OK:
	case x.Slot >= w.config.Slots:
		e = api.ErrForm
	case !slices.Contains(w.known, x.Key) || x.Key >= w.config.Keys:
		e = api.ErrKey
	case w.revoked(x.Key):
		e = api.ErrRevoked
	case x.Tag != tagOf(secretOf(x.Key), b[:len(b)-32]):
		e = api.ErrTag
	case x.Version < w.value(x.Slot) || x.Version > w.last():
		e = api.ErrVersion
	}
	if e != api.OK {
		return api.Image{}, e
	}
	return x, api.OK
}

func (w words) order() [2]int {
	if w.active()%2 == 0 {
		return [2]int{0, 1}
	}
	return [2]int{1, 0}
}

// start is what the loader's Start tells, and the bytes of the image.
func (w words) start() (api.Image, int, api.Errno, []byte) {
	for _, n := range w.order() {
		b := w.image(n)
		if x, e := w.check(b); b != nil && e == api.OK {
			return x, n, api.OK, b
		}
	}
	return api.Image{}, 0, api.ErrNone, nil
}

func (w words) target() int {
	if _, n, e, _ := w.start(); e == api.OK {
		return 1 - n
	}
	return w.order()[1]
}

// stage is what Stage must answer, and the acts that it does.
func (w words) stage(b []byte) (api.Errno, []act) {
	if _, e := w.check(b); e != api.OK {
		return e, nil
	}
	if len(b) > 32*w.config.Cells*w.config.Area {
		return api.ErrBytes, nil
	}
	to := w.target()
	if slices.ContainsFunc(w.pages(to), w.spent) {
		return api.ErrWorn, nil
	}
	if to == w.order()[0] {
		return api.OK, w.write(to, b)
	}
	if w.full() || w.active() == mostNumber {
		return api.ErrWorn, nil
	}
	return api.OK, append(w.write(to, b), w.lay(w.config.Slots, w.active()+1)...)
}

// bumpTo is what BumpTo must answer, and the acts that it does.
func (w words) bumpTo(slot int, v int64) (api.Errno, []act) {
	switch {
	case slot < 0 || slot >= w.config.Slots || v < 0:
		return api.ErrRange, nil
	case v <= w.value(slot):
		return api.OK, nil
	case v > w.last():
		return api.ErrSaturated, nil
	case w.full():
		return api.ErrWorn, nil
	}
	l := w.lay(slot, v)
	n := w.blown(slot)
	for i := range w.config.Fuses {
		if at := slot*w.config.Fuses + i; !w.holds.Blown[at] && int64(n) < v/int64(w.config.Step) {
			l = append(l, act{kind: "blow", fuse: at})
			n++
		}
	}
	return api.OK, l
}

// act is an Erase of a page, a Program of one of its cells, or a Blow of a fuse.
type act struct {
	kind       string
	page, cell int
	x          api.Cell
	fuse       int
}

// write are the acts by which bytes come into an area.
func (w words) write(n int, b []byte) []act {
	var l, cells []act
	for _, p := range w.pages(n) {
		if w.used(p) {
			l = append(l, act{kind: "erase", page: p})
		}
	}
	full := bytes.Clone(b)
	for len(full)%32 != 0 {
		full = append(full, 0xff)
	}
	for _, p := range w.pages(n) {
		for k := range w.config.Cells {
			if len(full) > 0 {
				cells = append(cells, act{kind: "program", page: p, cell: k, x: api.Cell(full[:32])})
				full = full[32:]
			}
		}
	}
	return append(append(l, cells[1:]...), cells[0])
}

// lay are the acts by which a slot of the log comes to a number.
func (w words) lay(slot int, n int64) []act {
	if free := w.free(); free > 0 {
		return []act{{kind: "program", page: w.present(), cell: w.config.Cells - free, x: value(slot, n)}}
	}
	var l []act
	to, next := w.turned(), 1
	if w.used(to) {
		l = append(l, act{kind: "erase", page: to})
	}
	for s := range w.config.Slots + 1 {
		m := w.number(s)
		if s == slot {
			m = n
		}
		if m > 0 {
			l = append(l, act{kind: "program", page: to, cell: next, x: value(s, m)})
			next++
		}
	}
	generation := int64(1)
	if p := w.present(); p >= 0 {
		generation = w.generation(p) + 1
	}
	return append(l, act{kind: "program", page: to, x: head(generation)})
}

// lets says whether a mask lets a bit of the byte number i change.
func lets(mask []byte, i, bit int) bool {
	return len(mask) > 0 && mask[i%len(mask)]>>bit&1 == 1
}

// done is the act done, as far as the mask lets it: each bit is chosen by itself.
func (w words) done(a act, mask []byte) {
	switch a.kind {
	case "blow":
		w.holds.Blown[a.fuse] = w.holds.Blown[a.fuse] || lets(mask, 0, 0)
	case "erase":
		w.holds.Erases[a.page]++
		for i := range 32 * w.config.Cells {
			for bit := range 8 {
				if lets(mask, i, bit) {
					w.holds.Pages[a.page][i/32][i%32] |= 1 << bit
				}
			}
		}
	case "program":
		for i := range 32 {
			for bit := range 8 {
				if lets(mask, i, bit) && a.x[i]>>bit&1 == 0 {
					w.holds.Pages[a.page][a.cell][i] &^= 1 << bit
				}
			}
		}
	}
}
