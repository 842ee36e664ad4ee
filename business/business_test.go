package business_test

import (
	"math"
	"slices"
	"testing"
	"time"

	"quittance/api"
	"quittance/business"
)

const daySeconds = 86_400

// at is that day by the library's calendar.
func at(n int) time.Time {
	return time.Unix(int64(n)*daySeconds, 0).UTC()
}

// day is the number of that date.
func day(year, month, day int) int {
	return int(time.Date(year, time.Month(month), day, 0, 0, 0, 0, time.UTC).Unix() / daySeconds)
}

// run is all the days from from to to, both among them.
func run(from, to int) []int {
	var l []int
	for n := from; n <= to; n++ {
		l = append(l, n)
	}
	return l
}

// weekdays are the first MaxHolidays days from from on, by steps of 1 or -1, that are none of a weekend;
// they are told rising.
func weekdays(from, step int) []int {
	var l []int
	for n := from; len(l) < api.MaxHolidays; n += step {
		if w := at(n).Weekday(); w != time.Saturday && w != time.Sunday {
			l = append(l, n)
		}
	}
	slices.Sort(l)
	return l
}

// lists are holidays of many kinds: none, some, in long runs, and at the ends of all days.
func lists() [][]int {
	spread := make([]int, api.MaxHolidays)
	for i := range spread {
		spread[i] = api.FirstDay + 549*i
	}
	return [][]int{
		nil,
		{0},
		{day(2024, 5, 31), day(2024, 6, 3), day(2024, 6, 28)},
		{day(2024, 6, 8), day(2024, 6, 9)}, // a weekend has none to lose
		{api.FirstDay, api.LastDay},
		run(day(2024, 1, 1), day(2024, 1, 31)),
		run(day(2023, 12, 15), day(2024, 2, 10)),
		run(day(2100, 2, 1), day(2100, 2, 28)),
		run(api.FirstDay, day(1900, 1, 31)),
		run(day(2200, 12, 1), api.LastDay),
		spread,
		run(day(2000, 1, 1), day(2000, 1, 1)+api.MaxHolidays-1),
		weekdays(day(2001, 1, 15), 1), // nothing is open for 40 weeks
		weekdays(api.FirstDay, 1),
		weekdays(api.LastDay, -1),
	}
}

func calendar(t *testing.T, holidays []int) *business.Calendar {
	t.Helper()
	c, e := business.New(holidays)
	if e != api.OK || c == nil {
		t.Fatalf("P5.1: New of %d holidays: error %d; want 0", len(holidays), e)
	}
	return c
}

// openDays tells of each day from FirstDay on, by the library's calendar, whether it is of business.
func openDays(holidays []int) []bool {
	open := make([]bool, api.LastDay-api.FirstDay+1)
	for i := range open {
		w := at(api.FirstDay + i).Weekday()
		open[i] = w != time.Saturday && w != time.Sunday
	}
	for _, n := range holidays {
		open[n-api.FirstDay] = false
	}
	return open
}

func TestOpenOnEveryDay(t *testing.T) {
	for i, l := range lists() {
		c, want := calendar(t, l), openDays(l)
		for n := api.FirstDay; n <= api.LastDay; n++ {
			if got := c.Open(n); got != want[n-api.FirstDay] {
				t.Fatalf("P5.1: Open(%d) with the holidays %d: %t; want %t", n, i, got, !got)
			}
		}
	}
}

func TestOpenBeyondAllDays(t *testing.T) {
	c, zero := calendar(t, nil), new(business.Calendar)
	var none *business.Calendar
	beyond := []int{math.MinInt, math.MaxInt, math.MinInt32, math.MaxInt32, 1 << 62, -1 << 62}
	for i := 1; i <= 7; i++ { // one of each weekday
		beyond = append(beyond, api.FirstDay-i, api.LastDay+i, math.MinInt+i, math.MaxInt-i)
	}
	for _, n := range beyond {
		if c.Open(n) || zero.Open(n) || none.Open(n) {
			t.Errorf("P5.1: Open(%d): true; want false", n)
		}
	}
	for n := -7; n <= 7; n++ {
		if none.Open(n) {
			t.Errorf("P5.1: Open(%d) of a nil calendar: true; want false", n)
		}
		if zero.Open(n) != c.Open(n) {
			t.Errorf("P5.1: Open(%d) of a zero calendar: %t; want as without holidays", n, zero.Open(n))
		}
	}
}

func TestNewRefuses(t *testing.T) {
	last := api.LastDay
	for i, r := range []struct {
		holidays []int
		want     api.Errno
	}{
		{nil, api.OK}, {[]int{}, api.OK}, {[]int{api.FirstDay}, api.OK}, {[]int{api.LastDay}, api.OK},
		{[]int{api.FirstDay, -1, 0, 1, api.LastDay}, api.OK},
		{run(1, api.MaxHolidays), api.OK}, {run(last-api.MaxHolidays+1, last), api.OK},
		{run(0, api.MaxHolidays), api.ErrArg}, {run(last-api.MaxHolidays, last), api.ErrArg}, {run(0, 1000), api.ErrArg},
		{[]int{5, 5}, api.ErrArg}, {[]int{6, 5}, api.ErrArg}, {[]int{1, 2, 3, 3}, api.ErrArg}, {[]int{1, 3, 2, 4}, api.ErrArg},
		{[]int{api.FirstDay, api.FirstDay}, api.ErrArg}, {[]int{api.LastDay, api.LastDay}, api.ErrArg},
		{[]int{api.LastDay, api.FirstDay}, api.ErrArg},
		{[]int{api.FirstDay - 1}, api.ErrArg}, {[]int{api.LastDay + 1}, api.ErrArg},
		{[]int{api.FirstDay - 1, api.FirstDay}, api.ErrArg}, {[]int{api.LastDay, api.LastDay + 1}, api.ErrArg},
		{[]int{math.MinInt}, api.ErrArg}, {[]int{math.MaxInt}, api.ErrArg}, {[]int{math.MinInt, math.MaxInt}, api.ErrArg},
		{[]int{0, math.MaxInt, math.MinInt, 1}, api.ErrArg},
	} {
		if c, e := business.New(r.holidays); e != r.want || (c == nil) != (e != api.OK) {
			t.Errorf("P5.1: New of the row %d: a calendar: %t, error %d; want %d", i, c != nil, e, r.want)
		}
	}
}

func TestNewKeepsNothing(t *testing.T) {
	room := []int{0, 1, 4, 5, 6}
	c := calendar(t, room[:3])
	if want := []int{0, 1, 4, 5, 6}; !slices.Equal(room, want) {
		t.Errorf("R3: behind New the holidays are %v; want %v", room, want)
	}
	// Day 0 is a Thursday.
	for i := range room {
		room[i] = 7
	}
	for n, want := range []bool{false, false, false, false, false, true, true, true, true} {
		if got := c.Open(n); got != want {
			t.Errorf("R3: Open(%d), with the holidays written over: %t; want %t", n, got, want)
		}
	}
	empty := make([]int, 0, 3)
	d := calendar(t, empty)
	_ = append(empty, 0, 1, 4)
	if !d.Open(0) || !d.Open(1) || !d.Open(4) {
		t.Error("R3: Open hangs on the room behind an empty list's end")
	}
}

func TestCalendarsAreApart(t *testing.T) {
	with, without := calendar(t, []int{0}), calendar(t, nil)
	if with.Open(0) || !without.Open(0) {
		t.Errorf("R2: Open(0): with a holiday %t, without %t; want false, true", with.Open(0), without.Open(0))
	}
}

func TestCountExamples(t *testing.T) {
	c := calendar(t, []int{day(2024, 5, 31), day(2024, 6, 3), day(2024, 6, 8), day(2024, 6, 28)})
	for i, r := range []struct{ from, to, want int }{
		{day(2024, 6, 1), day(2024, 6, 30), 18},
		{day(2024, 6, 3), day(2024, 6, 3), 0},
		{day(2024, 6, 4), day(2024, 6, 4), 1},
		{day(2024, 6, 8), day(2024, 6, 9), 0},
		{day(2024, 6, 4), day(2024, 6, 5), 2},
		{day(2024, 5, 27), day(2024, 6, 4), 5},
		{day(2024, 6, 7), day(2024, 6, 10), 2},
		{day(2024, 7, 1), day(2024, 7, 7), 5},
		// The first day is a Monday, the last one a Wednesday.
		{api.FirstDay, api.FirstDay, 1},
		{api.LastDay, api.LastDay, 1},
		{api.FirstDay, api.FirstDay + 6, 5},
		{api.LastDay - 4, api.LastDay, 3},
	} {
		if n, e := c.Count(r.from, r.to); n != r.want || e != api.OK {
			t.Errorf("P5.1: Count of the row %d: %d, error %d; want %d, 0", i, n, e, r.want)
		}
	}
}

func TestCountIsOfOpenDays(t *testing.T) {
	for i, l := range lists() {
		c, open := calendar(t, l), openDays(l)
		upTo := make([]int, len(open)+1) // how many there are ahead of a day
		for j, o := range open {
			upTo[j+1] = upTo[j]
			if o {
				upTo[j+1]++
			}
		}
		check := func(from, to int) {
			want := upTo[to+1-api.FirstDay] - upTo[from-api.FirstDay]
			if n, e := c.Count(from, to); n != want || e != api.OK {
				t.Fatalf("P5.1: Count(%d, %d) with the holidays %d: %d, error %d; want %d, 0", from, to, i, n, e, want)
			}
		}
		check(api.FirstDay, api.LastDay)
		for _, from := range []int{api.FirstDay, -10, day(2000, 1, 1), day(2001, 1, 10), day(2024, 1, 1), day(2024, 5, 25), day(2200, 11, 20)} {
			for start := from; start < from+9; start++ {
				for to := start; to <= min(start+40, api.LastDay); to++ {
					check(start, to)
				}
			}
		}
	}
}

func TestCountRefuses(t *testing.T) {
	c := calendar(t, nil)
	var none *business.Calendar
	for i, r := range [][2]int{
		{5, 4}, {api.LastDay, api.FirstDay}, {0, -1}, {api.LastDay, api.LastDay - 1},
		{api.FirstDay - 1, 4}, {api.FirstDay - 1, api.FirstDay - 1}, {5, api.LastDay + 1}, {api.LastDay + 1, api.LastDay + 1},
		{api.LastDay + 1, 5}, {5, api.FirstDay - 1}, {api.FirstDay - 1, api.LastDay + 1},
		{math.MinInt, math.MaxInt}, {math.MaxInt, math.MinInt}, {math.MinInt, 0}, {0, math.MaxInt}, {math.MaxInt, math.MaxInt},
	} {
		if n, e := c.Count(r[0], r[1]); n != 0 || e != api.ErrDay {
			t.Errorf("P5.1: Count refused, the row %d: %d, error %d; want 0, 5", i, n, e)
		}
		if n, e := none.Count(r[0], r[1]); n != 0 || e != api.ErrNil {
			t.Errorf("P5.1: Count of nil, the row %d: %d, error %d; want 0, 2", i, n, e)
		}
	}
	if n, e := none.Count(4, 5); n != 0 || e != api.ErrNil {
		t.Errorf("P5.1: Count of nil: %d, error %d; want 0, 2", n, e)
	}
	if n, e := new(business.Calendar).Count(0, 6); n != 5 || e != api.OK {
		t.Errorf("P5.1: Count of a zero calendar: %d, error %d; want 5, 0", n, e)
	}
}

func TestRollExamples(t *testing.T) {
	few := []int{day(2024, 5, 31), day(2024, 6, 3), day(2024, 6, 28)}
	january := run(day(2024, 1, 1), day(2024, 1, 31))
	turn := run(day(2023, 12, 15), day(2024, 2, 10))
	for i, r := range []struct {
		holidays                     []int
		from, next, within, previous int
	}{
		{nil, day(2024, 6, 1), day(2024, 6, 3), day(2024, 6, 3), day(2024, 5, 31)},
		{nil, day(2024, 6, 3), day(2024, 6, 3), day(2024, 6, 3), day(2024, 6, 3)},
		{nil, day(2024, 6, 29), day(2024, 7, 1), day(2024, 6, 28), day(2024, 6, 28)},
		{nil, day(2023, 12, 30), day(2024, 1, 1), day(2023, 12, 29), day(2023, 12, 29)},
		{nil, day(2024, 3, 2), day(2024, 3, 4), day(2024, 3, 4), day(2024, 3, 1)},
		{few, day(2024, 6, 5), day(2024, 6, 5), day(2024, 6, 5), day(2024, 6, 5)},
		{few, day(2024, 6, 1), day(2024, 6, 4), day(2024, 6, 4), day(2024, 5, 30)},
		{few, day(2024, 5, 31), day(2024, 6, 4), day(2024, 5, 30), day(2024, 5, 30)},
		{few, day(2024, 6, 30), day(2024, 7, 1), day(2024, 6, 27), day(2024, 6, 27)},
		// The one ahead counts also where it is in another month itself.
		{january, day(2024, 1, 1), day(2024, 2, 1), day(2023, 12, 29), day(2023, 12, 29)},
		{january, day(2024, 1, 31), day(2024, 2, 1), day(2023, 12, 29), day(2023, 12, 29)},
		{turn, day(2023, 12, 20), day(2024, 2, 12), day(2023, 12, 14), day(2023, 12, 14)},
		{turn, day(2024, 1, 15), day(2024, 2, 12), day(2023, 12, 14), day(2023, 12, 14)},
		{turn, day(2024, 2, 1), day(2024, 2, 12), day(2024, 2, 12), day(2023, 12, 14)},
	} {
		c := calendar(t, r.holidays)
		for how, want := range []int{api.Stay: r.from, api.Next: r.next, api.Within: r.within, api.Previous: r.previous} {
			if how < api.Stay {
				continue
			}
			if n, e := c.Roll(r.from, how); n != want || e != api.OK {
				t.Errorf("P5.2: Roll of the row %d, how %d: %d, error %d; want %d, 0", i, how, n, e, want)
			}
		}
	}
}

// nearest tells of each day from FirstDay on which one that is open is the next, and which one the one
// ahead (itself, if it is open); none is MaxInt.
func nearest(open []bool) (next, ahead []int) {
	next, ahead = make([]int, len(open)), make([]int, len(open))
	last := math.MaxInt
	for i := range open {
		if open[i] {
			last = api.FirstDay + i
		}
		ahead[i] = last
	}
	last = math.MaxInt
	for i := len(open) - 1; i >= 0; i-- {
		if open[i] {
			last = api.FirstDay + i
		}
		next[i] = last
	}
	return next, ahead
}

// month counts the months of all years.
func month(n int) int {
	return at(n).Year()*12 + int(at(n).Month())
}

func TestRollOnEveryDay(t *testing.T) {
	for i, l := range lists() {
		c, open := calendar(t, l), openDays(l)
		next, ahead := nearest(open)
		for n := api.FirstDay; n <= api.LastDay; n++ {
			j := n - api.FirstDay
			within := next[j]
			if within == math.MaxInt || month(within) != month(n) {
				within = ahead[j]
			}
			for how, want := range []int{math.MaxInt, n, next[j], within, ahead[j], math.MaxInt} {
				var wantErrno api.Errno
				switch {
				case how < api.Stay || how > api.Previous:
					want, wantErrno = 0, api.ErrArg
				case want == math.MaxInt:
					want, wantErrno = 0, api.ErrDay
				}
				if got, e := c.Roll(n, how); got != want || e != wantErrno {
					t.Fatalf("P5.2: Roll(%d, %d) with the holidays %d: %d, error %d; want %d, %d", n, how, i, got, e, want, wantErrno)
				}
			}
		}
	}
}

// TestRolledStays: what follows from P5.2: what is rolled is of business, and rolled again it stays.
func TestRolledStays(t *testing.T) {
	for i, l := range lists() {
		c := calendar(t, l)
		for n := day(2023, 12, 1); n < day(2024, 7, 31); n++ {
			for how := api.Next; how <= api.Previous; how++ {
				to, _ := c.Roll(n, how)
				if !c.Open(to) {
					t.Errorf("P5.2: Roll(%d, %d) with the holidays %d: %d, none of business", n, how, i, to)
				}
				for again := api.Stay; again <= api.Previous; again++ {
					if got, e := c.Roll(to, again); got != to || e != api.OK {
						t.Errorf("P5.2: Roll(%d, %d), rolled already: %d, error %d; want the same, 0", to, again, got, e)
					}
				}
			}
		}
	}
}

func TestRollAtTheEnds(t *testing.T) {
	ends := []int{api.FirstDay, api.LastDay}
	first, last := run(api.FirstDay, day(1900, 1, 31)), run(day(2200, 12, 1), api.LastDay)
	for i, r := range []struct {
		holidays  []int
		from, how int
		want      int
		wantErrno api.Errno
	}{
		{ends, api.FirstDay, api.Stay, api.FirstDay, api.OK},
		{ends, api.FirstDay, api.Next, api.FirstDay + 1, api.OK},
		{ends, api.FirstDay, api.Within, api.FirstDay + 1, api.OK},
		{ends, api.FirstDay, api.Previous, 0, api.ErrDay},
		{ends, api.LastDay, api.Stay, api.LastDay, api.OK},
		{ends, api.LastDay, api.Next, 0, api.ErrDay},
		{ends, api.LastDay, api.Within, api.LastDay - 1, api.OK},
		{ends, api.LastDay, api.Previous, api.LastDay - 1, api.OK},
		// The next one is in another month, and the one ahead, which counts then, is none.
		{first, day(1900, 1, 15), api.Next, day(1900, 2, 1), api.OK},
		{first, day(1900, 1, 15), api.Within, 0, api.ErrDay},
		{first, day(1900, 1, 31), api.Within, 0, api.ErrDay},
		{first, day(1900, 1, 15), api.Previous, 0, api.ErrDay},
		// The next one is none: the one ahead counts, in whichever month.
		{last, day(2200, 12, 15), api.Next, 0, api.ErrDay},
		{last, day(2200, 12, 15), api.Within, day(2200, 11, 28), api.OK},
		{last, day(2200, 12, 15), api.Previous, day(2200, 11, 28), api.OK},
	} {
		if n, e := calendar(t, r.holidays).Roll(r.from, r.how); n != r.want || e != r.wantErrno {
			t.Errorf("P5.2: Roll at the ends, the row %d: %d, error %d; want %d, %d", i, n, e, r.want, r.wantErrno)
		}
		// None of these days is of a weekend.
		if n, e := calendar(t, nil).Roll(r.from, r.how); n != r.from || e != api.OK {
			t.Errorf("P5.2: Roll at the ends, the row %d without holidays: %d, error %d; want %d, 0", i, n, e, r.from)
		}
	}
}

func TestRollRefuses(t *testing.T) {
	c := calendar(t, []int{0})
	var none *business.Calendar
	days := []int{api.FirstDay, 0, 1, 2, api.LastDay}
	beyond := []int{api.FirstDay - 1, api.LastDay + 1, api.FirstDay - 7, api.LastDay + 7, math.MinInt32, math.MaxInt32, math.MinInt, math.MaxInt}
	hows := []int{api.Stay, api.Next, api.Within, api.Previous}
	wrong := []int{0, -1, 5, 6, math.MinInt, math.MaxInt}
	check := func(c *business.Calendar, n, how int, want api.Errno) {
		t.Helper()
		if got, e := c.Roll(n, how); got != 0 || e != want {
			t.Errorf("P5.2: Roll(%d, %d): %d, error %d; want 0, %d", n, how, got, e, want)
		}
	}
	for _, how := range append(slices.Clone(hows), wrong...) {
		for _, n := range append(slices.Clone(days), beyond...) {
			check(none, n, how, api.ErrNil)
		}
		// A day that there is not counts ahead of a how that there is not.
		for _, n := range beyond {
			check(c, n, how, api.ErrDay)
		}
	}
	for _, how := range wrong {
		for _, n := range days {
			check(c, n, how, api.ErrArg)
		}
	}
}
