package monthly

import (
	"quittance/api"
	"quittance/civil"
)

const (
	firstYear = 1900
	lastYear  = 2200
	yearLong  = 12 // months
	// lastMonth is December of lastYear, when January of firstYear is month 0.
	lastMonth = (lastYear-firstYear+1)*yearLong - 1
)

// date is one that there is, in the years from firstYear to lastYear.
type date api.Date

// month counts d's month from January of firstYear on.
func (d date) month() int {
	return (d.Year-firstYear)*yearLong + d.Month - 1
}

// add answers the day so many months behind d, of the same number, or its month's last one.
func (d date) add(months int) (int, api.Errno) {
	// months may be so great that nothing can be added to it: the bounds are moved instead.
	if months < -d.month() || months > lastMonth-d.month() {
		return 0, api.ErrDay
	}
	month := d.month() + months
	to := api.Date{Year: firstYear + month/yearLong, Month: month%yearLong + 1}
	to.Day = min(d.Day, civil.Month(to.Year, to.Month))
	return civil.Number(to)
}
