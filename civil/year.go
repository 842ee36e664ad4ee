package civil

import (
	"quittance/api"
)

const (
	firstYear = 1900
	lastYear  = 2200
	zeroYear  = 1970 // of which the first day is day 0
	february  = 2
	shortYear = 365
	longYear  = 366
)

// monthDays are those of a year that is not long.
var monthDays = [12]int{31, 28, 31, 30, 31, 30, 31, 31, 30, 31, 30, 31}

// year is one of the calendar.
type year int

// known tells whether the year is one of those whose days have numbers.
func (y year) known() bool {
	return y >= firstYear && y <= lastYear
}

// long follows the Gregorian rule.
func (y year) long() bool {
	return y%4 == 0 && (y%100 != 0 || y%400 == 0)
}

// month answers how many days that month has, and 0 of one that there is not.
func (y year) month(m int) int {
	if m < 1 || m > len(monthDays) {
		return 0
	}
	if m == february && y.long() {
		return monthDays[m-1] + 1
	}
	return monthDays[m-1]
}

// start is the number of the year's first day.
func (y year) start() int {
	return shortYear*int(y-zeroYear) + longAhead(y) - longAhead(zeroYear)
}

// longAhead counts the long years from the year 1 on that are ahead of y.
func longAhead(y year) int {
	last := int(y - 1)
	return last/4 - last/100 + last/400
}

// yearOf is the year in which the day n is.
func yearOf(n int) year {
	// Were all years long, it would be this one: it is never too late.
	y := firstYear + year((n-api.FirstDay)/longYear)
	for (y + 1).start() <= n {
		y++
	}
	return y
}

// ahead is how many days there are in the months ahead of that one; days tells those of each month.
func ahead(month int, days func(month int) int) int {
	sum := 0
	for m := 1; m < month; m++ {
		sum += days(m)
	}
	return sum
}

// monthOf is the month in which a year's day is, counted from 0 on, and what is left of the count in
// it; days tells those of each month.
func monthOf(day int, days func(month int) int) (month, rest int) {
	month = 1
	for day >= days(month) {
		day -= days(month)
		month++
	}
	return month, day
}
