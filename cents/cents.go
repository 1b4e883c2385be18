// Package cents is layer 1: amounts that are never below nothing, nor too large. See shared/doc/01-cents.md.
package cents

import (
	"math/bits"

	"leechbook/api"
)

// whole is how many hundredths of a percent are all of an amount.
const whole = 10000

// Good tells whether a number is an amount.
func Good(a int64) bool { return 0 <= a && a <= api.MaxCents }

// Add is two amounts together.
func Add(a, b int64) (int64, api.Errno) {
	if !Good(a) || !Good(b) {
		return 0, api.ErrArg
	}
	if !Good(a + b) {
		return 0, api.ErrOverflow
	}
	return a + b, api.OK
}

// Sub is an amount without another one.
func Sub(a, b int64) (int64, api.Errno) {
	if !Good(a) || !Good(b) {
		return 0, api.ErrArg
	}
	if a < b {
		return 0, api.ErrRange
	}
	return a - b, api.OK
}

// Sum is amounts together.
func Sum(l []int64) (int64, api.Errno) {
	// All are looked at ahead of adding: one that is no amount counts for more than too much in all, wherever it stands.
	if !allGood(l) {
		return 0, api.ErrArg
	}
	total := int64(0)
	for i := range len(l) {
		var e api.Errno
		// Leaving at once is right, as nothing behind makes it less; and the total never goes round.
		if total, e = Add(total, l[i]); e != api.OK {
			return 0, e
		}
	}
	return total, api.OK
}

func allGood(l []int64) bool {
	for i := range len(l) {
		if !Good(l[i]) {
			return false
		}
	}
	return true
}

// Scale is an amount times n by d, cut off.
func Scale(a, n, d int64) (int64, api.Errno) {
	if !Good(a) || n < 0 || d < 1 {
		return 0, api.ErrArg
	}
	// The product may be greater than 64 bits hold, though what comes of it by d is an amount.
	high, low := bits.Mul64(uint64(a), uint64(n))
	if high >= uint64(d) {
		// What comes of it is greater than 64 bits hold: Div64 would panic.
		return 0, api.ErrOverflow
	}
	q, _ := bits.Div64(high, low, uint64(d))
	if q > api.MaxCents {
		return 0, api.ErrOverflow
	}
	return int64(q), api.OK
}

// Part is so many hundredths of a percent of an amount, cut off.
func Part(a, points int64) (int64, api.Errno) {
	if points < 0 || points > whole {
		return 0, api.ErrArg
	}
	return Scale(a, points, whole)
}
