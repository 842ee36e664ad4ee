// Package fixnum is layer 1: money and rates, in whole numbers.
// See shared/doc/01-fixnum.md.
package fixnum

import (
	"quittance/api"
	"quittance/throw"
)

// Round rounds what does not come out even, in the way that Of was asked for.
// The zero Round rounds in no way: its calls answer ErrArg.
type Round struct {
	mode int
}

// Of answers what rounds by mode: HalfUp, HalfEven or Down.
func Of(mode int) (r Round, errno api.Errno) {
	defer func() { r, errno = throw.Settle(recover(), r) }()
	throw.Need(mode == api.HalfUp || mode == api.HalfEven || mode == api.Down, api.ErrArg)
	return Round{mode: mode}, api.OK
}

// Divide answers n by d, rounded.
func (r Round) Divide(n, d int64) (v int64, errno api.Errno) {
	defer func() { v, errno = throw.Settle(recover(), v) }()
	return r.quotient(n, 1, d), api.OK
}

// Ratio answers a times b, by d, rounded, however great a times b is.
func (r Round) Ratio(a, b, d int64) (v int64, errno api.Errno) {
	defer func() { v, errno = throw.Settle(recover(), v) }()
	return r.quotient(a, b, d), api.OK
}

// Fits tells whether v is from -MaxMoney to MaxMoney.
func Fits(v int64) bool {
	return -api.MaxMoney <= v && v <= api.MaxMoney
}

// Plus answers the sum of a and b.
func Plus(a, b int64) (sum int64, errno api.Errno) {
	defer func() { sum, errno = throw.Settle(recover(), sum) }()
	// Two numbers that fit add up far inside of int64: they are held against the bounds first.
	return fitting(fitting(a) + fitting(b)), api.OK
}

// Times answers v times n.
func Times(v int64, n int) (product int64, errno api.Errno) {
	defer func() { product, errno = throw.Settle(recover(), product) }()
	high, low, below := multiply(fitting(v), int64(n))
	throw.Need(high == 0 && low <= api.MaxMoney, api.ErrRange)
	return signed(int64(low), below), api.OK
}

// fitting is v itself, or throws ErrRange.
func fitting(v int64) int64 {
	throw.Need(Fits(v), api.ErrRange)
	return v
}
