// Package num is layer 1, integers within a bound: see ../shared/doc/01-num.md.
package num

import (
	"math/bits"

	"cambist/api"
)

// Sum adds the upper and the lower parts of its arguments separately: parts
// below split in size stay far from the ends of int for as many arguments as
// a call can have, so no partial sum overflows.
const (
	splitBits = 31
	split     = 1 << splitBits
)

// Right reports whether each argument is money.
func Right(l ...int) bool {
	for _, n := range l {
		if n < -api.Bound || n > api.Bound {
			return false
		}
	}
	return true
}

// Sum returns the sum of the arguments, whatever its partial sums are.
func Sum(l ...int) (int, api.Errno) {
	if !Right(l...) {
		return 0, api.ErrArg
	}
	upper, lower := 0, 0
	for _, n := range l {
		upper += n >> splitBits
		lower += n & (split - 1)
	}
	upper += lower >> splitBits
	lower &= split - 1
	// Only an upper part within these ends can be put together again.
	if upper < -api.Bound/split || upper > api.Bound/split {
		return 0, api.ErrBig
	}
	return money(upper*split + lower)
}

// Less returns the difference a - b.
func Less(a, b int) (int, api.Errno) {
	if !Right(a, b) {
		return 0, api.ErrArg
	}
	return Sum(a, -b)
}

// Times returns the product a b.
func Times(a, b int) (int, api.Errno) {
	if !Right(a, b) {
		return 0, api.ErrArg
	}
	hi, lo := bits.Mul64(size(a), size(b))
	if hi != 0 || lo > api.Bound {
		return 0, api.ErrBig
	}
	if (a < 0) != (b < 0) {
		return -int(lo), api.OK
	}
	return int(lo), api.OK
}

// Quo returns the quotient q of a and b, rounded down, and the remainder r.
func Quo(a, b int) (q, r int, e api.Errno) {
	if !Right(a, b) {
		return 0, 0, api.ErrArg
	}
	if b == 0 {
		return 0, 0, api.ErrZero
	}
	q, r = a/b, a%b
	// Go rounds towards 0: that is 1 too much where the remainder has not
	// the sign of the divisor.
	if r != 0 && (r < 0) != (b < 0) {
		return q - 1, r + b, api.OK
	}
	return q, r, api.OK
}

// Part returns the number from lo to hi that is nearest to l. The outer max
// makes it lo where lo is greater than hi.
func Part(l int, lo, hi int) int { return max(lo, min(l, hi)) }

// money returns n, or ErrBig if it is not money.
func money(n int) (int, api.Errno) {
	if !Right(n) {
		return 0, api.ErrBig
	}
	return n, api.OK
}

// size returns the distance of n from 0.
func size(n int) uint64 {
	if n < 0 {
		return uint64(-n)
	}
	return uint64(n)
}
