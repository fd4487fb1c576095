// Package fix is layer 1: see shared/doc/01-fix.md.
package fix

import (
	"math/bits"

	"stopline/api"
)

const half = api.Unit / 2

// Add, Sub, Mul and Div reckon with fixed numbers, rounding down, and stop at the greatest and the least one.
func Add(a, b int64) int64 {
	return stop(stop(a) + stop(b))
}

func Sub(a, b int64) int64 {
	return stop(stop(a) - stop(b))
}

func Mul(a, b int64) int64 {
	return stopWide(perUnit(product(stop(a), stop(b))))
}

func Div(a, b int64) (int64, api.Errno) {
	if b == 0 {
		return 0, api.ErrDiv
	}
	// A stopped number times Unit is at most 2^62, so one word holds it.
	return stop(quotient(stop(a)*api.Unit, stop(b))), api.OK
}

// Of is a whole number as a fixed one; Round the nearest whole one; Clamp a number within bounds; Mix a part of a new one, the rest of an old one.
func Of(n int) int64 {
	return stopWide(product(int64(n), api.Unit))
}

func Round(x int64) int {
	return int(quotient(stop(x)+half, api.Unit))
}

func Clamp(x, low, high int64) int64 {
	switch {
	case x < low, high < low:
		return low
	case x > high:
		return high
	}
	return x
}

func Mix(old, now, part int64) int64 {
	from, to := stop(old), stop(now)
	// From -Top to Top by a whole Unit is 2^63, one more than a word holds: hence two words. Per Unit, one holds it again.
	_, way := perUnit(product(to-from, Clamp(part, 0, api.Unit)))
	return from + int64(way)
}

func stop(x int64) int64 {
	switch {
	case x > api.Top:
		return api.Top
	case x < -api.Top:
		return -api.Top
	}
	return x
}

// product is exact: two words, the upper one with the sign.
func product(a, b int64) (int64, uint64) {
	high, low := bits.Mul64(uint64(a), uint64(b))
	// Mul64 takes a factor below 0 for one that is 2^64 greater; what that adds to the upper word goes off again.
	if a < 0 {
		high -= uint64(b)
	}
	if b < 0 {
		high -= uint64(a)
	}
	return int64(high), low
}

// perUnit divides by a shift, because a shift of a number with a sign rounds down, and Go's division does not.
func perUnit(high int64, low uint64) (int64, uint64) {
	const shift = 16
	return high >> shift, uint64(high)<<(64-shift) | low>>shift
}

func stopWide(high int64, low uint64) int64 {
	switch {
	case high > 0 || high == 0 && low > api.Top:
		return api.Top
	case high < -1 || high == -1 && low < 1<<64-api.Top:
		return -api.Top
	}
	return int64(low)
}

// quotient mends Go's division, which rounds towards 0: one less, where that was up.
func quotient(a, b int64) int64 {
	q := a / b
	if a%b != 0 && (a < 0) != (b < 0) {
		q--
	}
	return q
}
