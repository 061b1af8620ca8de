package loader_test

import (
	"bytes"
	"crypto/hmac"
	"crypto/sha256"
	"encoding/binary"
	"hash/crc32"
	"slices"

	"portcullis/api"
	"portcullis/chip"
)

// The numbers of the document, written out.
const (
	mostNumber = int64(1) << 62
	mostBytes  = 524288
)

var ones = []byte{0xff}

func filled(v byte) api.Cell { return api.Cell(bytes.Repeat([]byte{v}, 32)) }

// summed lays twelve bytes, their sum as the library reckons it, and the complement of all of them into a cell.
func summed(kind, slot byte, n int64) api.Cell {
	var c api.Cell
	b := binary.LittleEndian.AppendUint64([]byte{kind, slot, 0, 0}, uint64(n))
	b = binary.LittleEndian.AppendUint32(b, crc32.ChecksumIEEE(b))
	for i, x := range b {
		c[i], c[16+i] = x, 255-x
	}
	return c
}

func head(n int64) api.Cell { return summed(1, 0, n) }

func value(slot int, n int64) api.Cell { return summed(2, byte(slot), n) }

func number(c api.Cell) int64 { return int64(binary.LittleEndian.Uint64(c[4:12])) }

func isHead(c api.Cell) bool {
	return 1 <= number(c) && number(c) <= mostNumber && c == head(number(c))
}

func isValue(c api.Cell) bool {
	return 1 <= number(c) && number(c) <= mostNumber && c[1] <= 8 && c == value(int(c[1]), number(c))
}

// secretOf is the one of a key, wherever a ring has it.
func secretOf(key int) []byte { return []byte{byte(key), 0x5e, 0xc2} }

// tagOf is the library's HMAC-SHA-256, which the program itself may not lean on.
func tagOf(key int, b []byte) []byte {
	h := hmac.New(sha256.New, secretOf(key))
	h.Write(b)
	return h.Sum(nil)
}

// by is an image by chapter 11's words, signed with the secret of whatever key.
func by(signer, slot, key int, version int64, payload []byte) []byte {
	b := []byte{0x50, 0x43, 0x55, 0x4c, 0x01, byte(slot), byte(key), 0x00}
	b = binary.LittleEndian.AppendUint32(b, uint32(version))
	b = binary.LittleEndian.AppendUint32(b, uint32(len(payload)))
	b = append(b, payload...)
	return append(b, tagOf(signer, b)...)
}

// right is an image that is signed with the key that it names.
func right(slot, key int, version int64, payload ...byte) []byte {
	return by(key, slot, key, version, payload)
}

// sized is an image of the slot 0 that has so many bytes in all; no cell of it is blank.
func sized(key int, version int64, n int) []byte {
	payload := make([]byte, n-48)
	for i := range payload {
		payload[i] = byte(i) ^ byte(version)
	}
	return right(0, key, version, payload...)
}

// form is what image.Parse must say, as chapter 11 has it.
func form(b []byte) (api.Image, api.Errno) {
	if len(b) > mostBytes {
		return api.Image{}, api.ErrBytes
	}
	for at, want := range []byte{'P', 'C', 'U', 'L', 1, 7, 63, 0} {
		if at >= len(b) {
			return api.Image{}, api.ErrShort
		}
		if at != 5 && at != 6 && b[at] != want || b[at] > want {
			return api.Image{}, api.ErrForm
		}
	}
	if len(b) < 16 {
		return api.Image{}, api.ErrShort
	}
	n := int(binary.LittleEndian.Uint32(b[12:]))
	switch {
	case 48+n > mostBytes:
		return api.Image{}, api.ErrForm
	case len(b) < 48+n:
		return api.Image{}, api.ErrShort
	case len(b) > 48+n:
		return api.Image{}, api.ErrRest
	}
	version := int64(binary.LittleEndian.Uint32(b[8:]))
	return api.Image{Slot: int(b[5]), Key: int(b[6]), Version: version, Payload: b[16 : 16+n], Tag: api.Hash(b[16+n:])}, api.OK
}

// words tells, by the words of the document alone, what a loader over a chip with power is to answer, and which acts it does. Each word is gone through by itself.
type words struct {
	config api.Config
	holds  api.Chip
	known  []int // the keys of the ring
}

func (x *bench) words() words { return words{x.chip.Config(), x.chip.State(), x.known} }

func same(a, b api.Chip) bool {
	return slices.EqualFunc(a.Pages, b.Pages, slices.Equal) && slices.Equal(a.Erases, b.Erases) && slices.Equal(a.Blown, b.Blown)
}

func (w words) generation(p int) int64 {
	if c := w.holds.Pages[p][0]; isHead(c) {
		return number(c)
	}
	return 0
}

func (w words) present() int {
	for p := range 2 {
		mine, other := w.generation(p), w.generation(1-p)
		if mine > 0 && (other == 0 || other < mine || other == mine && p == 0) {
			return p
		}
	}
	return -1
}

// number is the log's of a slot.
func (w words) number(slot int) int64 {
	var n int64
	if p := w.present(); p >= 0 {
		for _, c := range w.holds.Pages[p][1:] {
			if isValue(c) && int(c[1]) == slot {
				n = max(n, number(c))
			}
		}
	}
	return n
}

func (w words) active() int64 { return w.number(w.config.Slots) }

func (w words) free() int {
	free := 0
	if p := w.present(); p >= 0 {
		for _, c := range slices.Backward(w.holds.Pages[p]) {
			if c != filled(0xff) {
				break
			}
			free++
		}
	}
	return free
}

// turned is the page that a turn of the log fills.
func (w words) turned() int {
	if w.present() == 0 {
		return 1
	}
	return 0
}

func (w words) used(p int) bool {
	return slices.ContainsFunc(w.holds.Pages[p], func(c api.Cell) bool { return c != filled(0xff) })
}

// spent says that a page would have to be erased, and may not be.
func (w words) spent(p int) bool {
	return w.used(p) && w.holds.Erases[p] >= w.config.Erases
}

// full says that the log couldn't lay one number more.
func (w words) full() bool {
	if w.active() == mostNumber {
		return true
	}
	if w.free() > 0 {
		return false
	}
	p := w.present()
	return p >= 0 && w.generation(p) == mostNumber || w.spent(w.turned())
}

// pages are the numbers of an area's pages.
func (w words) pages(n int) []int {
	var l []int
	for p := range w.holds.Pages {
		if p >= 2 && p < 2+w.config.Area && n == 0 || p >= 2+w.config.Area && n == 1 {
			l = append(l, p)
		}
	}
	return l
}

func (w words) bytes(n int) []byte {
	var b []byte
	for _, p := range w.pages(n) {
		for _, x := range w.holds.Pages[p] {
			b = append(b, x[:]...)
		}
	}
	return b
}

// image goes through all beginnings of an area's bytes.
func (w words) image(n int) []byte {
	b := w.bytes(n)
	for i := range len(b) + 1 {
		if _, e := form(b[:i]); e == api.OK {
			return b[:i]
		}
	}
	return nil
}

func (w words) value(slot int) int64 {
	var n int64
	for i := range w.config.Fuses {
		if w.holds.Blown[slot*w.config.Fuses+i] {
			n += int64(w.config.Step)
		}
	}
	return max(n, w.number(slot))
}

func (w words) revoked(key int) bool {
	return w.holds.Blown[w.config.Slots*w.config.Fuses+key]
}

func (w words) last() int64 { return int64(w.config.Step*w.config.Fuses + w.config.Step - 1) }

// check is the gate's answer.
func (w words) check(b []byte) (api.Image, api.Errno) {
	x, e := form(b)
	switch {
	case e != api.OK:
	case x.Slot >= w.config.Slots:
		e = api.ErrForm
	case !slices.Contains(w.known, x.Key) || x.Key >= w.config.Keys:
		e = api.ErrKey
	case w.revoked(x.Key):
		e = api.ErrRevoked
	case x.Tag != api.Hash(tagOf(x.Key, b[:len(b)-32])):
		e = api.ErrTag
	case x.Version < w.value(x.Slot) || x.Version > w.last():
		e = api.ErrVersion
	}
	if e != api.OK {
		return api.Image{}, e
	}
	return x, api.OK
}

func (w words) order() [2]int {
	if w.active()%2 == 0 {
		return [2]int{0, 1}
	}
	return [2]int{1, 0}
}

// start is what Start must answer, and the bytes of the image.
func (w words) start() (told, []byte) {
	for _, n := range w.order() {
		b := w.image(n)
		if x, e := w.check(b); b != nil && e == api.OK {
			return told{x, n, api.OK}, b
		}
	}
	return told{e: api.ErrNone}, nil
}

func (w words) target() int {
	if got, _ := w.start(); got.e == api.OK {
		return 1 - got.n
	}
	return w.order()[1]
}

// stage is what Stage must answer, and the acts that it does.
func (w words) stage(b []byte) (api.Errno, []act) {
	if _, e := w.check(b); e != api.OK {
		return e, nil
	}
	if len(b) > 32*w.config.Cells*w.config.Area {
		return api.ErrBytes, nil
	}
	to := w.target()
	if slices.ContainsFunc(w.pages(to), w.spent) {
		return api.ErrWorn, nil
	}
	if to == w.order()[0] {
		return api.OK, w.write(to, b)
	}
	if w.full() {
		return api.ErrWorn, nil
	}
	return api.OK, append(w.write(to, b), w.name(w.active()+1)...)
}

// act is an Erase of a page, or a Program of one of its cells.
type act struct {
	erase      bool
	page, cell int
	x          api.Cell
}

// write are the acts by which bytes come into an area.
func (w words) write(n int, b []byte) []act {
	var l, cells []act
	for _, p := range w.pages(n) {
		if w.used(p) {
			l = append(l, act{erase: true, page: p})
		}
	}
	full := bytes.Clone(b)
	for len(full)%32 != 0 {
		full = append(full, 0xff)
	}
	for _, p := range w.pages(n) {
		for k := range w.config.Cells {
			if len(full) > 0 {
				cells = append(cells, act{page: p, cell: k, x: api.Cell(full[:32])})
				full = full[32:]
			}
		}
	}
	return append(append(l, cells[1:]...), cells[0])
}

// name are the acts by which the log's slot number Slots comes to a number.
func (w words) name(n int64) []act {
	if free := w.free(); free > 0 {
		return []act{{page: w.present(), cell: w.config.Cells - free, x: value(w.config.Slots, n)}}
	}
	var l []act
	to, next := w.turned(), 1
	if w.used(to) {
		l = append(l, act{erase: true, page: to})
	}
	for s := range w.config.Slots + 1 {
		m := w.number(s)
		if s == w.config.Slots {
			m = n
		}
		if m > 0 {
			l = append(l, act{page: to, cell: next, x: value(s, m)})
			next++
		}
	}
	generation := int64(1)
	if p := w.present(); p >= 0 {
		generation = w.generation(p) + 1
	}
	return append(l, act{page: to, x: head(generation)})
}

// done is the act done, as far as the mask lets it: each bit is chosen by itself.
func (w words) done(a act, mask []byte) {
	if a.erase {
		w.holds.Erases[a.page]++
	}
	for k := range w.holds.Pages[a.page] {
		if !a.erase && k != a.cell {
			continue
		}
		at := 0
		if a.erase {
			at = 32 * k
		}
		x := &w.holds.Pages[a.page][k]
		for i := range x {
			for bit := range 8 {
				lets := len(mask) > 0 && mask[(at+i)%len(mask)]>>bit&1 == 1
				if lets && a.erase {
					x[i] |= 1 << bit
				} else if lets && a.x[i]>>bit&1 == 0 {
					x[i] &^= 1 << bit
				}
			}
		}
	}
}

// behind is the chip behind those acts.
func (w words) behind(l []act) words {
	for _, a := range l {
		w.done(a, ones)
	}
	return w
}

// told is what a Start answers.
type told struct {
	x api.Image
	n int
	e api.Errno
}

func (a told) is(b told) bool {
	return a.n == b.n && a.e == b.e && a.x.Slot == b.x.Slot && a.x.Key == b.x.Key && a.x.Version == b.x.Version && a.x.Tag == b.x.Tag && bytes.Equal(a.x.Payload, b.x.Payload)
}

// off lets the power of a chip go, at an act that leaves nothing.
func off(c *chip.Chip) bool {
	c.Cut(0, nil)
	return c.Blow(0) == api.ErrPower && c.Out()
}
