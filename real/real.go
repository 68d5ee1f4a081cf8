// Package real has the edges of numbers that are not whole ones: see ../../shared/DOC.md and doc/02-real.md.
package real

import (
	"cmp"
	"math"
	"slices"

	"noontide/api"
)

// The ranks at which the kinds part: of what is no number, -Inf, -0, +0, +Inf.
const (
	rankNone   uint64 = 0
	rankBelow  uint64 = 0x000fffffffffffff
	rankMinus  uint64 = 0x7fffffffffffffff
	rankNought uint64 = 0x8000000000000000
	rankAbove  uint64 = 0xfff0000000000000
)

// rank turns a number's bits so that they stand in the order of Less, since < neither parts -0 from 0 nor has a place for what is no number.
func rank(x float64) uint64 {
	const sign = 1 << 63
	bits := math.Float64bits(x)
	switch {
	case math.IsNaN(x):
		return rankNone
	case bits&sign != 0:
		return ^bits
	}
	return bits | sign
}

func Kind(x float64) int {
	switch r := rank(x); {
	case r == rankNone:
		return 0
	case r == rankBelow:
		return 1
	case r < rankMinus:
		return 2
	case r == rankMinus:
		return 3
	case r == rankNought:
		return 4
	case r < rankAbove:
		return 5
	}
	return 6
}

func Same(a, b float64) bool {
	return rank(a) == rank(b)
}

func Less(a, b float64) bool {
	return rank(a) < rank(b)
}

func Round(x float64, mode int) (float64, api.Errno) {
	switch mode {
	case api.RoundDown:
		return math.Floor(x), api.OK
	case api.RoundUp:
		return math.Ceil(x), api.OK
	case api.RoundZero:
		return math.Trunc(x), api.OK
	case api.RoundEven:
		return math.RoundToEven(x), api.OK
	}
	return 0, api.ErrForm
}

func Whole(x float64, mode int) (int64, api.Errno) {
	// The greatest int64 has no float64 of its own; the number behind it has one.
	const end = 1 << 63
	whole, why := Round(x, mode)
	switch {
	case why != api.OK:
		return 0, why
	case math.IsNaN(whole):
		return 0, api.ErrNaN
	case whole < -end || whole >= end:
		return 0, api.ErrRange
	}
	return int64(whole), api.OK
}

func Of(n int64) float64 {
	return float64(n)
}

func Sum(l ...float64) float64 {
	if len(l) == 0 {
		return 0
	}
	// It begins with the first one, not with 0, since 0 and -0 make 0.
	sum := l[0]
	for _, x := range l[1:] {
		sum += x
	}
	return sum
}

func Least(l ...float64) (float64, bool) {
	if len(l) == 0 {
		return 0, false
	}
	return slices.MinFunc(l, func(a, b float64) int { return cmp.Compare(rank(a), rank(b)) }), true
}
