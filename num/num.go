// Package num is layer 1: numbers with a point, told by the 64 bits of their float64.
package num

import (
	"math"

	"bailey/api"
)

// noNumber is the one form of all bits that are no number's.
const noNumber = 0x7FF8000000000001

const signBit = 1 << 63

// What Kind tells.
const (
	kindFinite = iota
	kindZero
	kindMinusZero
	kindPlusInfinity
	kindMinusInfinity
	kindNoNumber
)

// isNoNumber leans on the float's own rule: what is no number is unlike itself.
func isNoNumber(f float64) bool { return f != f }

// Canon: one form of what is no number.
func Canon(a uint64) uint64 {
	if isNoNumber(math.Float64frombits(a)) {
		return noNumber
	}
	return a
}

// Kind: what kind of number it is.
func Kind(a uint64) int {
	f := math.Float64frombits(a)
	switch {
	case isNoNumber(f):
		return kindNoNumber
	case f == 0 && math.Signbit(f):
		return kindMinusZero
	case f == 0:
		return kindZero
	case math.IsInf(f, 1):
		return kindPlusInfinity
	case math.IsInf(f, -1):
		return kindMinusInfinity
	}
	return kindFinite
}

// Do: an operation. What it answers is in the one form, whatever it was given.
func Do(op int, a, b uint64) uint64 {
	x, y := math.Float64frombits(a), math.Float64frombits(b)
	switch op {
	case api.NumSet:
		return Canon(b)
	case api.NumAdd:
		return canonBits(x + y)
	case api.NumSub:
		return canonBits(x - y)
	case api.NumMul:
		return canonBits(x * y)
	case api.NumDiv:
		return canonBits(x / y)
	case api.NumLess:
		return truth(Less(a, b))
	}
	return Canon(a)
}

// canonBits: hardware chooses the sign and fraction of a result that is no number, so they must not be seen.
func canonBits(f float64) uint64 { return Canon(math.Float64bits(f)) }

// truth: a yes or no is told as a number too, for it goes where numbers go.
func truth(yes bool) uint64 {
	if yes {
		return math.Float64bits(1)
	}
	return math.Float64bits(0)
}

// Less: does a number stand ahead of another?
func Less(a, b uint64) bool {
	x, y := math.Float64frombits(a), math.Float64frombits(b)
	switch {
	case isNoNumber(x):
		return false
	case isNoNumber(y):
		return true
	case x == y: // both zeros are alike but for the sign
		return math.Signbit(x) && !math.Signbit(y)
	}
	return x < y
}

// Key: a number's place in the order of all. Below zero greater bits stand further ahead, so all of them are turned.
func Key(a uint64) uint64 {
	c := Canon(a)
	if c&signBit == 0 {
		return c + signBit
	}
	return ^c
}
