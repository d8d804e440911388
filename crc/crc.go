// Package crc is layer 1: a sum of bytes. See shared/doc/01-crc.md.
package crc

import "winnow/api"

// fallen is what a 1 that falls out of the register adds to it.
const fallen = 0xedb88320

// Sum is the sum of b; that of no bytes is 0.
func Sum(b []byte) uint32 { return More(0, b) }

// More is the sum of what had the first sum, with b behind it.
func More(sum uint32, b []byte) uint32 {
	reg := ^sum // a sum is a register with all its bits turned
	for _, c := range b {
		reg = eightPlaces(reg ^ uint32(c))
	}
	return ^reg
}

// Join is the sum of what had the sum a, with n bytes behind it that have
// the sum b.
func Join(a, b uint32, n int) (uint32, api.Kind) {
	if n < 0 || n > api.MaxFile {
		return 0, api.BadArg
	}
	// Of what had a, and of nothing, the same n bytes 0 are added to registers
	// whose difference is a: the turned bits fall away between the two, and what
	// the noughts make of a alone is left.
	m := oneNought()
	for ; n > 0; n >>= 1 {
		if n&1 == 1 {
			a = m.of(a)
		}
		m = m.squared()
	}
	return a ^ b, api.OK
}

// eightPlaces moves the register by a byte's bits.
func eightPlaces(reg uint32) uint32 {
	for range 8 {
		out := reg & 1
		reg >>= 1
		if out == 1 {
			reg ^= fallen
		}
	}
	return reg
}

// noughts is what some number of bytes 0 do to a register: row i is what
// becomes of its bit i. Bits never meddle with one another, so the rows of the
// bits that are set, added up, are what becomes of the whole register.
type noughts [32]uint32

// oneNought is what a single byte 0 does.
func oneNought() noughts {
	var m noughts
	for i := range m {
		m[i] = eightPlaces(1 << i)
	}
	return m
}

// of is what the bytes 0 make of reg.
func (m noughts) of(reg uint32) uint32 {
	var sum uint32
	for i := range 32 {
		if reg>>i&1 == 1 {
			sum ^= m[i]
		}
	}
	return sum
}

// squared is what twice as many bytes 0 do.
func (m noughts) squared() noughts {
	var twice noughts
	for i := range m {
		twice[i] = m.of(m[i])
	}
	return twice
}
