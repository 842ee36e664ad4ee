package fixnum

import (
	"math/bits"

	"quittance/api"
	"quittance/throw"
)

// quotient is a times b, by d, rounded by r; it throws what Divide and Ratio refuse.
func (r Round) quotient(a, b, d int64) int64 {
	throw.Need(r != Round{}, api.ErrArg)
	throw.Need(d > 0, api.ErrArg)
	high, low, below := multiply(a, b)
	// bits.Div64 has no answer from 2^64 on, which would not fit anyway.
	throw.Need(high < uint64(d), api.ErrRange)
	size, over := bits.Div64(high, low, uint64(d))
	// Rounding never leads from outside of the bounds into them: they are whole numbers themselves.
	throw.Need(size <= api.MaxMoney, api.ErrRange)
	floor, rest := signed(int64(size), below), int64(over)
	if below && rest > 0 {
		floor, rest = floor-1, d-rest
	}
	if r.goesUp(floor, rest, d) {
		floor++
	}
	return fitting(floor)
}

// goesUp tells whether floor, and rest by d, is rounded to the number above floor.
func (r Round) goesUp(floor, rest, d int64) bool {
	// Twice the rest might not be an int64: the way up is held against the way down instead.
	missing := d - rest
	switch r.mode {
	case api.HalfUp:
		return rest >= missing
	case api.HalfEven:
		return rest > missing || rest == missing && floor%2 != 0
	}
	return false
}

// multiply answers the size of a times b, in two words, and whether the signs make it negative.
func multiply(a, b int64) (high, low uint64, below bool) {
	high, low = bits.Mul64(magnitude(a), magnitude(b))
	return high, low, (a < 0) != (b < 0)
}

// magnitude is v without its sign.
func magnitude(v int64) uint64 {
	if v < 0 {
		// The least int64 has no opposite among them; the number above it has one.
		return uint64(-(v + 1)) + 1
	}
	return uint64(v)
}

// signed gives a size its sign.
func signed(size int64, below bool) int64 {
	if below {
		return -size
	}
	return size
}
