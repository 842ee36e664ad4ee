package dues_test

// A second reading of chapter 11, by the library's calendar alone: months, days of business and parts of a
// year are counted here once more.

import (
	"slices"
	"strings"
	"testing"
	"time"

	"quittance/api"
	"quittance/dues"
	"quittance/product"
)

const daySeconds = 86_400

// at is that day by the library's calendar.
func at(n int) time.Time {
	return time.Unix(int64(n)*daySeconds, 0).UTC()
}

func number(t time.Time) int {
	return int(t.Unix() / daySeconds)
}

// day is the number of a date, as 2024-02-29.
func day(date string) int {
	t, err := time.Parse(time.DateOnly, date)
	if err != nil {
		panic(err)
	}
	return number(t)
}

// list is the numbers of dates, a blank between each and the next.
func list(dates string) []int {
	var l []int
	for _, date := range strings.Fields(dates) {
		l = append(l, day(date))
	}
	return l
}

// run is all days from from to to, both among them.
func run(from, to int) []int {
	var l []int
	for n := from; n <= to; n++ {
		l = append(l, n)
	}
	return l
}

func known(n int) bool {
	return n >= api.FirstDay && n <= api.LastDay
}

// later is the day so many months behind n, and whether it is in the years that there are.
func later(n, months int) (int, bool) {
	first := time.Date(at(n).Year(), at(n).Month()+time.Month(months), 1, 0, 0, 0, 0, time.UTC)
	last := first.AddDate(0, 1, -1)
	to := number(first) + min(at(n).Day(), last.Day()) - 1
	return to, known(to)
}

func business(n int, holidays []int) bool {
	weekday := at(n).Weekday()
	return known(n) && weekday != time.Saturday && weekday != time.Sunday && !slices.Contains(holidays, n)
}

// walk is the first day of business from n on, by steps of 1 or -1, and whether there is one.
func walk(n, step int, holidays []int) (int, bool) {
	for known(n) && !business(n, holidays) {
		n += step
	}
	return n, known(n)
}

// rolled is the day to which p moves n, and whether there is one.
func rolled(p api.Product, n int) (int, bool) {
	next, isNext := walk(n, 1, p.Holidays)
	ahead, isAhead := walk(n, -1, p.Holidays)
	switch {
	case p.Roll == api.Stay:
		return n, true
	case p.Roll == api.Next:
		return next, isNext
	case p.Roll == api.Within && isNext && at(next).Format("2006-01") == at(n).Format("2006-01"):
		return next, true
	}
	return ahead, isAhead
}

// wantDays is what Days is to answer.
func wantDays(p api.Product, start int) ([]int, api.Errno) {
	if errno := product.Check(p); errno != api.OK {
		return nil, errno
	}
	if !known(start) {
		return nil, api.ErrDay
	}
	days := make([]int, p.Times)
	for i := range days {
		to, found := later(start, (i+1)*p.Every)
		if !found {
			return nil, api.ErrDay
		}
		days[i] = to
	}
	for i, n := range days {
		to, found := rolled(p, n)
		if !found {
			return nil, api.ErrDay
		}
		days[i] = to
	}
	for i, ahead := range append([]int{start}, days[:p.Times-1]...) {
		if days[i] <= ahead {
			return nil, api.ErrDates
		}
	}
	return days, api.OK
}

// actual is Actual's parts of all days ahead of each, from FirstDay on, added up one by one.
var actual = func() []int64 {
	l := make([]int64, 1, api.LastDay-api.FirstDay+2)
	for n := api.FirstDay; n <= api.LastDay; n++ {
		long := time.Date(at(n).Year(), 12, 31, 0, 0, 0, 0, time.UTC).YearDay()
		l = append(l, l[len(l)-1]+int64(365+366-long))
	}
	return l
}()

// parts is how many parts of a year, by count, to is behind from.
func parts(count, from, to int) int64 {
	a, b := at(from), at(to)
	switch count {
	case api.Thirty:
		days := min(b.Day(), 30) - min(a.Day(), 30)
		return int64(360*(b.Year()-a.Year()) + 30*(int(b.Month())-int(a.Month())) + days)
	case api.Fixed:
		return int64(to - from)
	}
	return actual[to-api.FirstDay] - actual[from-api.FirstDay]
}

// wantParts is what Parts is to answer.
func wantParts(p api.Product, start int) ([]int64, api.Errno) {
	days, errno := wantDays(p, start)
	var l []int64
	for _, n := range days {
		l = append(l, parts(p.Count, start, n))
		start = n
	}
	return l, errno
}

// answersDays holds Days of p and start against days and an error.
func answersDays(t *testing.T, p api.Product, start int, want []int, wantErrno api.Errno) {
	t.Helper()
	if l, e := dues.Days(p, start); !slices.Equal(l, want) || e != wantErrno {
		t.Fatalf("P11.1: Days(%+v, %d): %v, error %d; want %v, %d", p, start, l, e, want, wantErrno)
	}
}

// answersParts holds Parts of p and start against parts and an error.
func answersParts(t *testing.T, p api.Product, start int, want []int64, wantErrno api.Errno) {
	t.Helper()
	if l, e := dues.Parts(p, start); !slices.Equal(l, want) || e != wantErrno {
		t.Fatalf("P11.1: Parts(%+v, %d): %v, error %d; want %v, %d", p, start, l, e, want, wantErrno)
	}
}

// refuses holds both calls against an error, and so the second reading.
func refuses(t *testing.T, p api.Product, start int, want api.Errno) {
	t.Helper()
	if _, e := wantDays(p, start); e != want {
		t.Fatalf("what is wanted of %+v, %d: error %d; want %d", p, start, e, want)
	}
	answersDays(t, p, start, nil, want)
	answersParts(t, p, start, nil, want)
}

// check holds both calls against the second reading.
func check(t *testing.T, p api.Product, start int) {
	t.Helper()
	days, errno := wantDays(p, start)
	answersDays(t, p, start, days, errno)
	wanted, errno := wantParts(p, start)
	answersParts(t, p, start, wanted, errno)
}
