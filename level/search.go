package level

import (
	"quittance/api"
	"quittance/throw"
)

// least is the least instalment of which left tells 0, or below; it throws ErrSteep, if there is none.
func least(left func(instalment int64) int64) int64 {
	throw.Need(left(api.MaxMoney) <= 0, api.ErrSteep)
	// An instalment of 0 leaves all, and where one leaves nothing, a greater one does so, too: the least
	// one is always above low, and not above high.
	low, high := int64(0), int64(api.MaxMoney)
	for high-low > 1 {
		if middle := low + (high-low)/2; left(middle) <= 0 {
			high = middle
		} else {
			low = middle
		}
	}
	return high
}
