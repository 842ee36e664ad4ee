package dues_test

import (
	"math"
	"math/rand/v2"
	"slices"
	"testing"

	"quittance/api"
	"quittance/dues"
	"quittance/fraction"
)

// home is a product of so many instalments, a month between each and the next.
func home(times int) api.Product {
	return api.Product{
		Name: "home", Count: api.Thirty, Round: api.HalfUp, Kind: api.Annuity, Every: 1, Times: times, Rate: 60_000_000,
		Order: [4]int{api.Fees, api.Penalty, api.Interest, api.Principal}, Over: api.HoldIt, Roll: api.Stay,
	}
}

// turned is a product with something turned in it.
func turned(p api.Product, turn func(p *api.Product)) api.Product {
	turn(&p)
	return p
}

// rolling is home, rolled, with these holidays.
func rolling(times, how int, holidays []int) api.Product {
	return turned(home(times), func(p *api.Product) { p.Roll, p.Holidays = how, holidays })
}

func counts() []int { return []int{api.Thirty, api.Fixed, api.Actual} }

func rolls() []int { return []int{api.Stay, api.Next, api.Within, api.Previous} }

func TestTwelveMonths(t *testing.T) {
	want := list("2024-02-15 2024-03-15 2024-04-15 2024-05-15 2024-06-15 2024-07-15 2024-08-15 2024-09-15 2024-10-15 2024-11-15 2024-12-15 2025-01-15")
	p, start := home(12), day("2024-01-15")
	answersDays(t, p, start, want, api.OK)
	answersParts(t, p, start, []int64{30, 30, 30, 30, 30, 30, 30, 30, 30, 30, 30, 30}, api.OK)
	p.Count = api.Fixed
	answersParts(t, p, start, []int64{31, 29, 31, 30, 31, 30, 31, 31, 30, 31, 30, 31}, api.OK)
	p.Count = api.Actual
	answersParts(t, p, start, []int64{
		31 * 365, 29 * 365, 31 * 365, 30 * 365, 31 * 365, 30 * 365, 31 * 365, 31 * 365, 30 * 365, 31 * 365, 30 * 365,
		17*365 + 14*366,
	}, api.OK)
}

func TestDaysOfMonths(t *testing.T) {
	for i, r := range []struct {
		start        string
		every, times int
		want         string
	}{
		{"2024-01-31", 1, 4, "2024-02-29 2024-03-31 2024-04-30 2024-05-31"},
		{"2023-01-30", 1, 3, "2023-02-28 2023-03-30 2023-04-30"},
		{"2023-12-31", 2, 3, "2024-02-29 2024-04-30 2024-06-30"},
		{"2024-11-30", 3, 3, "2025-02-28 2025-05-30 2025-08-30"},
		{"2024-10-31", 4, 2, "2025-02-28 2025-06-30"},
		{"2024-08-31", 6, 3, "2025-02-28 2025-08-31 2026-02-28"},
		{"2024-02-29", 12, 4, "2025-02-28 2026-02-28 2027-02-28 2028-02-29"},
		// Of Stay a Saturday, a Sunday and a first of January are as good as any day.
		{"2024-05-01", 1, 3, "2024-06-01 2024-07-01 2024-08-01"},
		{"2023-12-01", 1, 1, "2024-01-01"},
		{"1900-01-01", 1, 2, "1900-02-01 1900-03-01"},
		{"2200-10-31", 1, 2, "2200-11-30 2200-12-31"},
		{"1969-12-01", 1, 2, "1970-01-01 1970-02-01"},
	} {
		p := home(r.times)
		p.Every = r.every
		if l, e := dues.Days(p, day(r.start)); !slices.Equal(l, list(r.want)) || e != api.OK {
			t.Errorf("P11.1: Days of the row %d: %v, error %d; want %s", i, l, e, r.want)
		}
		check(t, p, day(r.start))
	}
}

func TestDaysRolled(t *testing.T) {
	for i, r := range []struct {
		how                   int
		start, holidays, want string
	}{
		// Sunday 30 June, Saturday 31 August 2024.
		{api.Next, "2024-05-31", "", "2024-07-01 2024-07-31 2024-09-02"},
		{api.Within, "2024-05-31", "", "2024-06-28 2024-07-31 2024-08-30"},
		{api.Previous, "2024-05-31", "", "2024-06-28 2024-07-31 2024-08-30"},
		// Saturday 1 and Sunday 2 June.
		{api.Next, "2024-04-01", "", "2024-05-01 2024-06-03 2024-07-01"},
		{api.Within, "2024-04-01", "", "2024-05-01 2024-06-03 2024-07-01"},
		{api.Previous, "2024-04-01", "", "2024-05-01 2024-05-31 2024-07-01"},
		{api.Next, "2024-04-02", "2024-05-02 2024-06-03 2024-07-02", "2024-05-03 2024-06-04 2024-07-03"},
		{api.Within, "2024-04-02", "2024-05-02 2024-06-03 2024-07-02", "2024-05-03 2024-06-04 2024-07-03"},
		{api.Previous, "2024-04-02", "2024-05-02 2024-06-03 2024-07-02", "2024-05-01 2024-05-31 2024-07-01"},
		{api.Within, "2024-04-30", "2024-05-30 2024-05-31", "2024-05-29 2024-06-28 2024-07-30"},
		{api.Next, "2024-04-30", "2024-05-30 2024-05-31", "2024-06-03 2024-07-01 2024-07-30"},
		{api.Next, "2023-12-15", "2024-01-15 2024-01-16 2024-01-17 2024-01-18 2024-01-19 2024-01-22", "2024-01-23 2024-02-15 2024-03-15"},
		{api.Previous, "2023-12-15", "2024-01-15 2024-01-16", "2024-01-12 2024-02-15 2024-03-15"},
		// Start is not rolled, nor is any other counted from a day that was.
		{api.Next, "2024-06-01", "2024-06-03", "2024-07-01 2024-08-01 2024-09-02"},
		{api.Previous, "2024-06-30", "2024-06-28", "2024-07-30 2024-08-30 2024-09-30"},
		{api.Next, "2024-03-30", "2024-04-30", "2024-05-01 2024-05-30 2024-07-01"},
	} {
		p := rolling(3, r.how, list(r.holidays))
		if l, e := dues.Days(p, day(r.start)); !slices.Equal(l, list(r.want)) || e != api.OK {
			t.Errorf("P11.1: Days of the row %d, rolled: %v, error %d; want %s", i, l, e, r.want)
		}
		check(t, p, day(r.start))
	}
}

func TestPartsOfRolledDays(t *testing.T) {
	for i, r := range []struct {
		how                   int
		start, holidays       string
		thirty, fixed, actual []int64
	}{
		{api.Next, "2024-05-31", "", []int64{31, 29, 32}, []int64{31, 30, 33}, []int64{31 * 365, 30 * 365, 33 * 365}},
		{api.Within, "2024-05-31", "", []int64{28, 32, 30}, []int64{28, 33, 30}, []int64{28 * 365, 33 * 365, 30 * 365}},
		{api.Stay, "2023-11-30", "", []int64{30, 30, 29}, []int64{30, 31, 30}, []int64{30 * 366, 2*366 + 29*365, 30 * 365}},
		{api.Previous, "2024-07-30", "2024-08-30 2024-09-30", []int64{29, 28, 33}, []int64{30, 29, 33}, []int64{30 * 365, 29 * 365, 33 * 365}},
		{api.Within, "2023-12-31", "2024-01-30 2024-01-31", []int64{29, 30, 30}, []int64{29, 31, 29}, []int64{366 + 28*365, 31 * 365, 29 * 365}},
	} {
		for k, want := range [][]int64{r.thirty, r.fixed, r.actual} {
			p := rolling(3, r.how, list(r.holidays))
			p.Count = counts()[k]
			if l, e := dues.Parts(p, day(r.start)); !slices.Equal(l, want) || e != api.OK {
				t.Errorf("P11.1: Parts of the row %d, count %d: %v, error %d; want %v", i, p.Count, l, e, want)
			}
			check(t, p, day(r.start))
		}
	}
}

// TestNoParts: from a day 30 to the day 31 behind it the days rise, though of Thirty nothing lies between.
func TestNoParts(t *testing.T) {
	p := rolling(2, api.Previous, run(day("2024-02-01"), day("2024-02-29")))
	answersDays(t, p, day("2024-01-30"), list("2024-01-31 2024-03-29"), api.OK)
	for k, want := range [][]int64{{0, 59}, {1, 58}, {365, 58 * 365}} {
		p.Count = counts()[k]
		answersParts(t, p, day("2024-01-30"), want, api.OK)
	}
}

// TestDatesThatDoNotRise: next to each row that is refused one that is not, by a holiday or a day.
func TestDatesThatDoNotRise(t *testing.T) {
	for i, r := range []struct {
		how, times         int
		start, first, last string // holidays from the first to the last one
		want               api.Errno
	}{
		// The first one on start, or ahead of it.
		{api.Previous, 1, "2024-01-15", "2024-01-17", "2024-02-15", api.OK},
		{api.Previous, 1, "2024-01-15", "2024-01-16", "2024-02-15", api.ErrDates},
		{api.Previous, 1, "2024-01-15", "2024-01-15", "2024-02-15", api.ErrDates},
		{api.Previous, 3, "2024-01-15", "2024-01-15", "2024-02-15", api.ErrDates},
		{api.Previous, 3, "2024-01-15", "2024-01-01", "2024-02-15", api.ErrDates},
		{api.Within, 1, "2024-01-31", "2024-02-02", "2024-02-29", api.OK},
		{api.Within, 1, "2024-01-31", "2024-02-01", "2024-02-29", api.ErrDates},
		{api.Within, 1, "2024-01-30", "2024-02-01", "2024-02-29", api.OK},
		{api.Within, 1, "2024-01-31", "2024-01-31", "2024-02-29", api.ErrDates},
		{api.Within, 1, "2024-01-31", "2024-02-01", "2024-02-28", api.OK},
		// One on the day of the one ahead: of two, the last two of four, the first two.
		{api.Next, 2, "2024-01-10", "2024-02-10", "2024-03-07", api.OK},
		{api.Next, 2, "2024-01-10", "2024-02-10", "2024-03-08", api.ErrDates},
		{api.Next, 1, "2024-01-10", "2024-02-10", "2024-03-08", api.OK},
		{api.Next, 4, "2024-01-10", "2024-04-10", "2024-05-08", api.OK},
		{api.Next, 4, "2024-01-10", "2024-04-10", "2024-05-09", api.ErrDates},
		{api.Next, 4, "2024-01-10", "2024-04-10", "2024-05-10", api.ErrDates},
		{api.Next, 3, "2024-01-10", "2024-04-10", "2024-05-10", api.OK},
		{api.Next, 4, "2024-01-10", "2024-02-12", "2024-03-11", api.ErrDates},
		{api.Previous, 2, "2024-01-10", "2024-02-13", "2024-03-10", api.OK},
		{api.Previous, 2, "2024-01-10", "2024-02-12", "2024-03-10", api.ErrDates},
		{api.Previous, 2, "2024-01-10", "2024-02-01", "2024-03-10", api.ErrDates},
		{api.Previous, 4, "2024-01-10", "2024-04-12", "2024-05-10", api.OK},
		{api.Previous, 4, "2024-01-10", "2024-04-11", "2024-05-10", api.ErrDates},
		{api.Within, 2, "2023-12-31", "2024-02-02", "2024-02-29", api.OK},
		{api.Within, 2, "2023-12-31", "2024-02-01", "2024-02-29", api.ErrDates},
		{api.Within, 2, "2023-12-31", "2024-02-01", "2024-03-31", api.ErrDates},
		{api.Within, 2, "2023-12-31", "2024-02-01", "2024-02-28", api.OK},
		// Days that all lie in one run of holidays.
		{api.Next, 6, "2024-01-10", "2024-02-01", "2024-07-31", api.ErrDates},
		{api.Within, 6, "2024-01-10", "2024-02-01", "2024-07-31", api.ErrDates},
		{api.Previous, 6, "2024-01-10", "2024-02-01", "2024-07-31", api.ErrDates},
	} {
		p := rolling(r.times, r.how, run(day(r.first), day(r.last)))
		l, e := dues.Days(p, day(r.start))
		if e != r.want || (len(l) == r.times) != (e == api.OK) || e != api.OK && len(l) > 0 {
			t.Errorf("P11.1: Days of the row %d: %v, error %d; want %d", i, l, e, r.want)
		}
		check(t, p, day(r.start))
	}
}

func TestDaysThatCannotBeRolled(t *testing.T) {
	last, first := api.LastDay, api.FirstDay // a Wednesday, and a Monday
	for i, r := range []struct {
		how, start int
		holidays   []int
		want       []int
		wantErrno  api.Errno
	}{
		{api.Next, day("2200-11-30"), list("2200-12-30"), []int{last}, api.OK},
		{api.Next, day("2200-11-30"), list("2200-12-30 2200-12-31"), nil, api.ErrDay},
		{api.Within, day("2200-11-30"), list("2200-12-30 2200-12-31"), []int{last - 2}, api.OK},
		{api.Previous, day("2200-11-30"), list("2200-12-30 2200-12-31"), []int{last - 2}, api.OK},
		{api.Previous, first, run(first+1, day("1900-02-01")), nil, api.ErrDates},
		{api.Previous, first, run(first+2, day("1900-02-01")), []int{first + 1}, api.OK},
		{api.Previous, first, run(first, day("1900-02-01")), nil, api.ErrDay},
		{api.Within, first, run(first, day("1900-02-01")), []int{day("1900-02-02")}, api.OK},
		{api.Within, day("1900-01-31"), run(first, day("1900-02-28")), nil, api.ErrDay},
		{api.Within, day("1900-01-31"), run(first+1, day("1900-02-28")), nil, api.ErrDates},
		{api.Within, day("1900-01-31"), run(first, day("1900-02-27")), []int{day("1900-02-28")}, api.OK},
		{api.Next, day("1900-01-31"), run(first, day("1900-02-28")), []int{day("1900-03-01")}, api.OK},
		{api.Within, day("2200-11-30"), run(last-api.MaxHolidays+1, last), nil, api.ErrDates},
		{api.Next, day("2200-11-30"), run(last-api.MaxHolidays+1, last), nil, api.ErrDay},
	} {
		p := rolling(1, r.how, r.holidays)
		if l, e := dues.Days(p, r.start); !slices.Equal(l, r.want) || e != r.wantErrno {
			t.Errorf("P11.1: Days of the row %d: %v, error %d; want %v, %d", i, l, e, r.want, r.wantErrno)
		}
		check(t, p, r.start)
	}
}

// TestOrderOfErrors: what more than one rule refuses is refused by the one that is named first.
func TestOrderOfErrors(t *testing.T) {
	wrong := turned(home(1), func(p *api.Product) { p.Every = 5 })
	// The first two fall together; the third one cannot be rolled.
	crowd := run(day("2200-10-30"), day("2200-11-30"))
	for i, r := range []struct {
		p     api.Product
		start int
		want  api.Errno
	}{
		{wrong, api.FirstDay - 1, api.ErrProduct},
		{wrong, api.LastDay + 1, api.ErrProduct},
		{wrong, api.LastDay, api.ErrProduct},
		{turned(wrong, func(p *api.Product) { p.Roll, p.Holidays = api.Next, run(0, 99) }), -20, api.ErrProduct},
		{home(0), api.LastDay + 1, api.ErrProduct},
		{home(api.MaxTimes + 1), 0, api.ErrProduct},
		{turned(home(1), func(p *api.Product) { p.Roll = 5 }), api.LastDay, api.ErrProduct},
		{rolling(3, api.Next, crowd), day("2200-09-30"), api.ErrDates},
		{rolling(3, api.Next, slices.Concat(crowd, list("2200-12-30"))), day("2200-09-30"), api.ErrDates},
		{rolling(3, api.Next, slices.Concat(crowd, list("2200-12-30 2200-12-31"))), day("2200-09-30"), api.ErrDay},
		{rolling(2, api.Next, slices.Concat(crowd, list("2200-12-30 2200-12-31"))), day("2200-09-30"), api.ErrDates},
		{rolling(4, api.Next, crowd), day("2200-09-30"), api.ErrDay},
		{rolling(2, api.Previous, run(api.FirstDay+1, api.FirstDay+60)), api.FirstDay, api.ErrDates},
		{rolling(2, api.Previous, run(api.FirstDay, api.FirstDay+60)), api.FirstDay, api.ErrDay},
	} {
		if l, e := dues.Days(r.p, r.start); len(l) != 0 || e != r.want {
			t.Errorf("P11.1: Days of the row %d: %v, error %d; want %d", i, l, e, r.want)
		}
		refuses(t, r.p, r.start, r.want)
	}
}

func TestStartsThatThereAreNot(t *testing.T) {
	for _, n := range []int{
		api.FirstDay - 1, api.LastDay + 1, api.FirstDay - 31, api.LastDay + 31, api.FirstDay - 366, api.LastDay + 366,
		math.MinInt32, math.MaxInt32, math.MinInt, math.MinInt + 1, math.MaxInt - 1, math.MaxInt, 1 << 32, -1 << 62,
	} {
		for _, how := range rolls() {
			for _, times := range []int{1, 12, api.MaxTimes} {
				refuses(t, rolling(times, how, nil), n, api.ErrDay)
				refuses(t, api.Product{}, n, api.ErrProduct)
			}
		}
	}
}

func TestProductsThatMayNotBe(t *testing.T) {
	for _, turn := range []func(p *api.Product){
		func(p *api.Product) { *p = api.Product{} }, func(p *api.Product) { p.Name = "" }, func(p *api.Product) { p.Name = "order" },
		func(p *api.Product) { p.Count = 0 }, func(p *api.Product) { p.Count = 4 }, func(p *api.Product) { p.Round = api.HalfEven },
		func(p *api.Product) { p.Kind = 0 }, func(p *api.Product) { p.Every = 0 }, func(p *api.Product) { p.Every = 5 },
		func(p *api.Product) { p.Every = -1 }, func(p *api.Product) { p.Every = 13 }, func(p *api.Product) { p.Every = math.MaxInt },
		func(p *api.Product) { p.Times = 0 }, func(p *api.Product) { p.Times = -1 }, func(p *api.Product) { p.Times = 601 },
		func(p *api.Product) { p.Times = math.MaxInt }, func(p *api.Product) { p.Times = math.MinInt }, func(p *api.Product) { p.Grace = 3 },
		func(p *api.Product) { p.Rate = -1 }, func(p *api.Product) { p.Penalty = api.Unit + 1 }, func(p *api.Product) { p.Order[0] = 0 },
		func(p *api.Product) { p.Resets = []api.Reset{{After: 3}} }, func(p *api.Product) { p.Over = 0 }, func(p *api.Product) { p.Cap = 1 },
		func(p *api.Product) { p.Late = []api.Tier{{Days: 0}} }, func(p *api.Product) { p.Roll = 0 }, func(p *api.Product) { p.Roll = 5 },
		func(p *api.Product) { p.Roll = math.MinInt }, func(p *api.Product) { p.Roll = api.Stay }, // there are holidays
		func(p *api.Product) { p.Holidays = []int{1, 1} }, func(p *api.Product) { p.Holidays = []int{2, 1} },
		func(p *api.Product) { p.Holidays = []int{api.FirstDay - 1} }, func(p *api.Product) { p.Holidays = []int{api.LastDay + 1} },
		func(p *api.Product) { p.Holidays = run(0, api.MaxHolidays) }, func(p *api.Product) { p.Holidays = make([]int, 100_000) },
	} {
		p := turned(rolling(3, api.Next, []int{0, 1}), turn)
		for _, start := range []int{api.FirstDay, 0, day("2024-01-31"), api.LastDay} {
			refuses(t, p, start, api.ErrProduct)
		}
	}
}

// TestEveryStart: every day that there is, and some beyond.
func TestEveryStart(t *testing.T) {
	for start := api.FirstDay - 2; start <= api.LastDay+2; start++ {
		for _, how := range rolls() {
			p := rolling(1, how, nil)
			p.Count = counts()[(start-api.FirstDay+2)%3]
			check(t, p, start)
		}
	}
}

// TestUpToTheLastYear: as many as there can be, up to the last month, and one more.
func TestUpToTheLastYear(t *testing.T) {
	for _, every := range []int{1, 2, 3, 4, 6, 12} {
		for _, times := range []int{1, 2, 3, 12, 299, 300, 301, 599, 600} {
			start, found := later(api.LastDay, -every*times)
			if !found {
				continue
			}
			for _, how := range rolls() {
				for _, count := range counts() {
					p := rolling(times, how, nil)
					p.Every, p.Count = every, count
					check(t, p, start)
					check(t, p, api.FirstDay)
					answersDays(t, p, start+1, nil, api.ErrDay) // the month behind
					p.Times++
					check(t, p, start)
					if l, e := dues.Days(p, start); len(l) != 0 || e != api.ErrDay && e != api.ErrProduct {
						t.Errorf("P11.1: Days of one more than %d, every %d months: %d of them, error %d", times, every, len(l), e)
					}
				}
			}
		}
	}
}

// TestWhatPlaysNoPart: whatever else a product tells, it is the same.
func TestWhatPlaysNoPart(t *testing.T) {
	start, holidays := day("2024-05-31"), list("2024-07-01 2024-08-30")
	days, wanted := list("2024-06-28 2024-07-31 2024-08-29"), []int64{28, 32, 29}
	for i, turn := range []func(p *api.Product){
		func(p *api.Product) {}, func(p *api.Product) { p.Name = "a-9" }, func(p *api.Product) { p.Round = api.Down },
		func(p *api.Product) { p.Kind = api.Equal }, func(p *api.Product) { p.Kind = api.Bullet }, func(p *api.Product) { p.Grace = 2 },
		func(p *api.Product) { p.Rate = 0 }, func(p *api.Product) { p.Rate = api.Unit }, func(p *api.Product) { p.Penalty = api.Unit },
		func(p *api.Product) { p.Resets = []api.Reset{{After: 1}, {After: 2, Rate: 5}} }, func(p *api.Product) { p.Order = [4]int{4, 3, 2, 1} },
		func(p *api.Product) { p.Over = api.Refund }, func(p *api.Product) { p.Late, p.Cap = []api.Tier{{Days: 1, Fee: 5}}, 9 },
		func(p *api.Product) { p.Roll = api.Previous },
	} {
		p := turned(rolling(3, api.Within, holidays), turn)
		l, e := dues.Days(p, start)
		x, f := dues.Parts(p, start)
		if !slices.Equal(l, days) || !slices.Equal(x, wanted) || e != api.OK || f != api.OK {
			t.Errorf("P11.1: the row %d: %v, error %d, and %v, error %d; want %v, %v", i, l, e, x, f, days, wanted)
		}
	}
}

// anyProduct is some product that may be; its holidays lie about the days that are due, by a loan that
// begins at start.
func anyProduct(r *rand.Rand, start int) api.Product {
	p := home(1 + r.IntN([]int{1, 3, 12, 60, api.MaxTimes}[r.IntN(5)]))
	p.Every, p.Count, p.Roll = []int{1, 1, 1, 2, 3, 4, 6, 12}[r.IntN(8)], counts()[r.IntN(3)], rolls()[r.IntN(4)]
	if p.Roll == api.Stay {
		return p
	}
	var l []int
	for range r.IntN(4) {
		due, _ := later(start, p.Every*r.IntN(p.Times+1))
		l = append(l, run(due-r.IntN(40), due+r.IntN(40))...)
	}
	slices.Sort(l)
	l = slices.Compact(slices.DeleteFunc(l, func(n int) bool { return !known(n) }))
	p.Holidays = l[:min(len(l), api.MaxHolidays)]
	return p
}

// TestManyProducts: also that what was asked ahead plays no part.
func TestManyProducts(t *testing.T) {
	r, answers := rand.New(rand.NewPCG(11, 1)), [api.ErrDates + 1]int{}
	ahead, aheadStart := home(3), 0
	for range 20_000 {
		start := api.FirstDay + r.IntN(api.LastDay-api.FirstDay+1)
		if r.IntN(4) == 0 { // near one of the ends
			start = []int{api.FirstDay + r.IntN(70), api.LastDay - r.IntN(700)}[r.IntN(2)]
		}
		p := anyProduct(r, start)
		check(t, p, start)
		check(t, ahead, aheadStart)
		ahead, aheadStart = p, start
		_, e := dues.Days(p, start)
		answers[e]++
	}
	if answers[api.OK] < 5000 || answers[api.ErrDay] < 1000 || answers[api.ErrDates] < 1000 || answers[api.ErrProduct] > 0 {
		t.Errorf("of these products %v answer each error", answers)
	}
}

// TestPartsInAll: they are those between start and the last day.
func TestPartsInAll(t *testing.T) {
	for _, start := range list("1900-01-01 1969-12-31 2023-01-31 2024-02-29 2100-02-28 2140-12-31") {
		for _, how := range rolls() {
			for _, count := range counts() {
				p := rolling(api.MaxTimes, how, nil)
				p.Count = count
				days, _ := dues.Days(p, start)
				wanted, _ := fraction.Between(count, start, days[api.MaxTimes-1])
				l, e := dues.Parts(p, start)
				sum := int64(0)
				for _, v := range l {
					sum += v
				}
				if len(l) != api.MaxTimes || sum != wanted || e != api.OK {
					t.Errorf("P11.1: Parts of count %d, from %d on: %d of them, %d in all, error %d; want %d", count, start, len(l), sum, e, wanted)
				}
			}
		}
	}
}

func TestListsAreKeptApart(t *testing.T) {
	room := list("2024-06-28 2024-07-31 2024-08-30 2024-06-27")
	kept := slices.Clone(room)
	p, start := rolling(3, api.Within, room[:2]), day("2024-05-31")
	// What lies behind the end of the holidays plays no part, and stays.
	days, wanted := list("2024-06-27 2024-07-30 2024-08-30"), []int64{27, 33, 30}
	for range 3 {
		l, e := dues.Days(p, start)
		x, f := dues.Parts(p, start)
		if !slices.Equal(l, days) || !slices.Equal(x, wanted) || e != api.OK || f != api.OK {
			t.Fatalf("R3: %v, error %d, and %v, error %d; want %v, %v", l, e, x, f, days, wanted)
		}
		// What is handed out is written over: the next answer is no other.
		for i := range l {
			l[i], x[i] = -1, -1
		}
		if !slices.Equal(room, kept) {
			t.Fatalf("R3: behind the calls the holidays are %v; want %v", room, kept)
		}
	}
	empty := rolling(3, api.Within, room[:0])
	check(t, empty, start)
	check(t, rolling(3, api.Stay, room[:0]), start)
}

// TestAtOnce: by many at once, each with a product between that is another one.
func TestAtOnce(t *testing.T) {
	p, start, wrong := rolling(3, api.Within, list("2024-07-01 2024-08-30")), day("2024-05-31"), make(chan int)
	days, wanted := list("2024-06-28 2024-07-31 2024-08-29"), []int64{28, 32, 29}
	for range 8 {
		go func() {
			n := 0
			for range 200 {
				l, _ := dues.Days(p, start)
				x, _ := dues.Parts(p, start)
				if !slices.Equal(l, days) || !slices.Equal(x, wanted) {
					n++
				}
				dues.Days(rolling(12, api.Next, nil), 0)
			}
			wrong <- n
		}()
	}
	for range 8 {
		if n := <-wrong; n != 0 {
			t.Errorf("R2: at once: %d of 200 answers are others", n)
		}
	}
}
