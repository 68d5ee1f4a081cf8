// Package num has whole numbers that do not go round, and their texts: see ../../shared/DOC.md and doc/01-num.md.
package num

import (
	"strconv"
	"strings"

	"noontide/api"
)

// The ends of the numbers.
const (
	Great int64 = 1<<63 - 1
	Least int64 = -1 << 63
)

func Add(a, b int64) (int64, api.Errno) {
	if b > 0 && a > Great-b || b < 0 && a < Least-b {
		return 0, api.ErrRange
	}
	return a + b, api.OK
}

func Sub(a, b int64) (int64, api.Errno) {
	if b > 0 && a < Least+b || b < 0 && a > Great+b {
		return 0, api.ErrRange
	}
	return a - b, api.OK
}

func Mul(a, b int64) (int64, api.Errno) {
	n, fits := product(size(a), size(b))
	if !fits {
		return 0, api.ErrRange
	}
	return signed(n, (a < 0) != (b < 0))
}

// size takes its way round by n+1, since Least without its sign is no int64.
func size(n int64) uint64 {
	if n < 0 {
		return uint64(-(n + 1)) + 1
	}
	return uint64(n)
}

// product goes by halves of 32 bits, since their products never go round: so what is too much for 64 bits is seen in the upper half.
func product(a, b uint64) (n uint64, fits bool) {
	aHigh, aLow := a>>32, uint64(uint32(a))
	bHigh, bLow := b>>32, uint64(uint32(b))
	if aHigh != 0 && bHigh != 0 {
		return 0, false
	}
	low := aLow * bLow
	high := aHigh*bLow + aLow*bHigh + low>>32
	if high>>32 != 0 {
		return 0, false
	}
	return high<<32 + uint64(uint32(low)), true
}

// signed has a case for Least alone, since its size is no int64.
func signed(size uint64, below bool) (int64, api.Errno) {
	const most = uint64(Great)
	switch {
	case size > most+1, size == most+1 && !below:
		return 0, api.ErrRange
	case size == most+1:
		return Least, api.OK
	case below:
		return -int64(size), api.OK
	}
	return int64(size), api.OK
}

func Div(a, b int64) (q, r int64, why api.Errno) {
	if b == 0 || a == Least && b == -1 {
		return 0, 0, api.ErrRange
	}
	q, r = a/b, a%b
	// Go divides towards 0, and leaves what has a's sign.
	if r != 0 && (r < 0) != (b < 0) {
		q, r = q-1, r+b
	}
	return q, r, api.OK
}

func Clamp(n, low, high int64) int64 {
	switch {
	case n < low:
		return low
	case n > high:
		return high
	}
	return n
}

func Text(n int64) string {
	return strconv.FormatInt(n, 10)
}

func Read(s string) (int64, api.Errno) {
	if !isText(s) {
		return 0, api.ErrNumber
	}
	n, err := strconv.ParseInt(s, 10, 64)
	if err != nil {
		return 0, api.ErrRange
	}
	return n, api.OK
}

// isText is asked ahead of strconv, which takes more than a number's text: a +, noughts ahead, -0.
func isText(s string) bool {
	digits, below := strings.CutPrefix(s, "-")
	if digits == "" || digits[0] == '0' && (below || len(digits) > 1) {
		return false
	}
	for i := range len(digits) {
		if digits[i] < '0' || digits[i] > '9' {
			return false
		}
	}
	return true
}
