package fraction

import (
	"quittance/api"
	"quittance/civil"
	"quittance/throw"
)

const (
	thirtyMonth = 30
	thirtyYear  = 12 * thirtyMonth
	shortYear   = 365
	longYear    = 366
	// actualYear is so chosen that a day, of either kind of year, is a whole number of parts.
	actualYear = shortYear * longYear
)

// year is how a count parts one.
type year struct {
	parts int64
	// place tells how many parts a day, of that date, lies behind a beginning that all days share: what
	// lies between two days is then a difference, and splits anywhere.
	place func(day int, d api.Date) int64
}

// yearOf is the year of a count, or throws ErrArg.
func yearOf(count int) year {
	switch count {
	case api.Thirty:
		return year{parts: thirtyYear, place: thirty}
	case api.Fixed:
		return year{parts: shortYear, place: fixed}
	case api.Actual:
		return year{parts: actualYear, place: actual}
	}
	panic(api.ErrArg)
}

// at is the place of a day, or throws ErrDay.
func (y year) at(day int) int64 {
	return y.place(day, throw.Sure(civil.Date(day)))
}

func thirty(_ int, d api.Date) int64 {
	return int64(thirtyYear*d.Year + thirtyMonth*d.Month + min(d.Day, thirtyMonth))
}

func fixed(day int, _ api.Date) int64 {
	return int64(day)
}

func actual(day int, d api.Date) int64 {
	start := throw.Sure(civil.Number(api.Date{Year: d.Year, Month: 1, Day: 1}))
	return int64(d.Year)*actualYear + int64(day-start)*dayParts(d.Year)
}

// dayParts is how many of actualYear's parts each day of that year has.
func dayParts(y int) int64 {
	if civil.Long(y) {
		return actualYear / longYear
	}
	return actualYear / shortYear
}
