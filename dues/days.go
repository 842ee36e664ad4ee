package dues

import (
	"quittance/api"
	"quittance/business"
	"quittance/fraction"
	"quittance/monthly"
	"quittance/product"
	"quittance/throw"
)

// due is the days on which the instalments of p are due, or throws what the first step refused with.
func due(p api.Product, start int) []int {
	errno := product.Check(p)
	throw.Need(errno == api.OK, errno)
	dates := throw.Sure(monthly.Dates(start, p.Every, p.Times))
	calendar := throw.Sure(business.New(p.Holidays))
	days := moved(dates, p.Roll, calendar.Roll)
	// Only now: a day that cannot be rolled counts ahead of all that do not rise.
	throw.Need(rising(start, days), api.ErrDates)
	return days
}

// moved is where roll moves each of days, or throws.
func moved(days []int, how int, roll func(day, how int) (int, api.Errno)) []int {
	to := make([]int, len(days))
	for i, day := range days {
		to[i] = throw.Sure(roll(day, how))
	}
	return to
}

// rising tells whether each of days is behind the one ahead of it, the first one behind start.
func rising(start int, days []int) bool {
	ahead := start
	for _, day := range days {
		if day <= ahead {
			return false
		}
		ahead = day
	}
	return true
}

// between is of each of days how many parts of a year, by count, it lies behind the one ahead of it, the
// first one behind start; or throws.
func between(count, start int, days []int) []int64 {
	parts := make([]int64, len(days))
	ahead := start
	for i, day := range days {
		parts[i] = throw.Sure(fraction.Between(count, ahead, day))
		ahead = day
	}
	return parts
}
