package growth

import (
	"math/bits"

	"quittance/api"
	"quittance/fixnum"
	"quittance/throw"
)

// mostParts is how many parts of a year may be asked for at once: 400 years of the finest count.
const mostParts = 133_590 * 400

// bear is what Bear answers; what Bear refuses is thrown, and leaves the rest as it was.
func (b *Bearer) bear(balance, rate, parts int64) int64 {
	throw.Need(b.whole > 0, api.ErrArg)
	throw.Need(upTo(balance, api.MaxMoney) && upTo(rate, api.Unit) && upTo(parts, mostParts), api.ErrArg)
	// The greatest rate times the most parts is far inside of int64, as is the whole with a rest.
	full, over := divide(balance, rate*parts, b.whole)
	over += b.rest
	more := throw.Sure(b.round.Divide(over, b.whole))
	borne := throw.Sure(fixnum.Plus(full, more))
	b.rest = over - more*b.whole
	return borne
}

// upTo tells whether v is from 0 to most.
func upTo(v, most int64) bool {
	return 0 <= v && v <= most
}

// divide is how often whole goes into a times b, none of them below 0, and what is left over; it throws
// ErrRange, where that is too often.
func divide(a, b, whole int64) (full, over int64) {
	high, low := bits.Mul64(uint64(a), uint64(b))
	// bits.Div64 has no answer from 2^64 on, which would not fit anyway.
	throw.Need(high < uint64(whole), api.ErrRange)
	often, left := bits.Div64(high, low, uint64(whole))
	// No rest leads back from above MaxMoney: at the least, it is half of the whole below 0.
	throw.Need(often <= api.MaxMoney, api.ErrRange)
	return int64(often), int64(left)
}
