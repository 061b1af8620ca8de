// Package crc is layer 1, sums that tell spoilt bytes (CRC-32, as IEEE 802.3 has it): see shared/doc/01-crc.md.
package crc

// A step takes the lowest bit first, so the standard's polynomial stands here with its bits turned round.
const polynomial = 0xedb88320

// Read alone behind init: a byte costs one look into it instead of eight steps.
var table [256]uint32

func init() {
	for i := range table {
		table[i] = eightSteps(uint32(i))
	}
}

func step(x uint32) uint32 {
	if x&1 == 1 {
		return x>>1 ^ polynomial
	}
	return x >> 1
}

func eightSteps(x uint32) uint32 {
	for range 8 {
		x = step(x)
	}
	return x
}

// Sum takes bytes in, and tells their sum.
type Sum struct {
	told uint32 // as Sum tells it, so that asking changes nothing, and no bytes are 0
}

// New makes one without bytes.
func New() *Sum { return &Sum{} }

// Write lays bytes behind those that it has.
func (s *Sum) Write(b []byte) { s.told = lay(s.told, b) }

// Sum tells the sum of all bytes.
func (s *Sum) Sum() uint32 { return s.told }

// Of tells the sum of bytes.
func Of(b []byte) uint32 { return lay(0, b) }

// Table tells what eight steps make of each byte.
func Table() [256]uint32 { return table }

// lay takes the sum of some bytes to that of them and b: the turn at the end is undone first, since it is its own opposite.
func lay(told uint32, b []byte) uint32 {
	x := ^told
	for _, v := range b {
		x = x>>8 ^ table[byte(x)^v]
	}
	return ^x
}
