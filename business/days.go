package business

import (
	"quittance/api"
	"quittance/civil"
)

// saturday is the weekday from which on a week has no day of business.
const saturday = 5

// known tells whether a day is from FirstDay to LastDay.
func known(day int) bool {
	return day >= api.FirstDay && day <= api.LastDay
}

func weekend(day int) bool {
	return civil.Weekday(day) >= saturday
}

// rising tells whether each of days is from FirstDay to LastDay, and above the one ahead of it.
func rising(days []int) bool {
	ahead := api.FirstDay - 1
	for _, day := range days {
		if day <= ahead || day > api.LastDay {
			return false
		}
		ahead = day
	}
	return true
}

// sameMonth tells whether two days that are known are of one month of one year.
func sameMonth(a, b int) bool {
	// civil refuses no day that is known.
	d, _ := civil.Date(a)
	e, _ := civil.Date(b)
	return d.Year == e.Year && d.Month == e.Month
}

// seek answers the first day that is open, from day itself on, by steps of 1 or -1, and whether there
// is one.
func seek(day, step int, open func(day int) bool) (int, bool) {
	for ; known(day); day += step {
		if open(day) {
			return day, true
		}
	}
	return 0, false
}

// roll answers the day that is open to which how, Next to Previous, moves day, and whether there is
// one; a day that is open itself stays.
func roll(day, how int, open func(day int) bool) (int, bool) {
	if how == api.Previous {
		return seek(day, -1, open)
	}
	next, found := seek(day, 1, open)
	if how == api.Next || found && sameMonth(day, next) {
		return next, found
	}
	return seek(day, -1, open)
}

// count answers how many days are open, from from to to, both among them.
func count(from, to int, open func(day int) bool) int {
	n := 0
	for day := from; day <= to; day++ {
		if open(day) {
			n++
		}
	}
	return n
}
