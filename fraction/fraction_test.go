package fraction_test

import (
	"math"
	"testing"
	"time"

	"quittance/api"
	"quittance/fraction"
)

const daySeconds = 86_400

// at is that day by the library's calendar.
func at(n int) time.Time {
	return time.Unix(int64(n)*daySeconds, 0).UTC()
}

// day is the number of that date.
func day(year, month, day int) int {
	return int(time.Date(year, time.Month(month), day, 0, 0, 0, 0, time.UTC).Unix() / daySeconds)
}

func counts() []int { return []int{api.Thirty, api.Fixed, api.Actual} }

// beyond are days that there are not.
func beyond() []int {
	return []int{
		api.FirstDay - 1, api.LastDay + 1, api.FirstDay - 366, api.LastDay + 366,
		math.MinInt32, math.MaxInt32, math.MinInt, math.MinInt + 1, math.MaxInt - 1, math.MaxInt,
	}
}

// noCounts are what is none.
func noCounts() []int {
	return []int{
		0, -1, 4, 5, -2, -3, 360, 365, 133_590, 1 << 32, 1<<32 + 1, 1<<32 + 2, 1<<32 + 3,
		math.MinInt32, math.MaxInt32, math.MinInt, math.MinInt + 1, math.MaxInt,
	}
}

// wantThirty is what Between is to answer of Thirty.
func wantThirty(from, to int) int64 {
	a, b := at(from), at(to)
	years, months := b.Year()-a.Year(), int(b.Month())-int(a.Month())
	days := min(b.Day(), 30) - min(a.Day(), 30)
	return int64(360*years + 30*months + days)
}

// sums are Actual's parts of all days ahead of each, from FirstDay on, added up one by one.
func sums() []int64 {
	l := make([]int64, 1, api.LastDay-api.FirstDay+2)
	for n := api.FirstDay; n <= api.LastDay; n++ {
		parts := int64(366)
		if time.Date(at(n).Year(), 12, 31, 0, 0, 0, 0, time.UTC).YearDay() == 366 {
			parts = 365
		}
		l = append(l, l[len(l)-1]+parts)
	}
	return l
}

// checkBetween holds Between, there and back, against what is wanted of a span of days.
func checkBetween(t *testing.T, sums []int64, from, to int) {
	t.Helper()
	wants := []int64{wantThirty(from, to), int64(to - from), sums[to-api.FirstDay] - sums[from-api.FirstDay]}
	for i, count := range counts() {
		n, e := fraction.Between(count, from, to)
		back, backErrno := fraction.Between(count, to, from)
		if n != wants[i] || e != api.OK || back != -wants[i] || backErrno != api.OK {
			t.Fatalf("P6.1: Between(%d, %d, %d): %d, error %d, and back %d, error %d; want %d, 0", count, from, to, n, e, back, backErrno, wants[i])
		}
	}
}

func TestParts(t *testing.T) {
	for i, want := range []int64{360, 365, 365 * 366} {
		count := counts()[i]
		if n, e := fraction.Parts(count); n != want || e != api.OK {
			t.Errorf("P6.1: Parts(%d): %d, error %d; want %d, 0", count, n, e, want)
		}
	}
	for _, count := range noCounts() {
		if n, e := fraction.Parts(count); n != 0 || e != api.ErrArg {
			t.Errorf("P6.1: Parts(%d): %d, error %d; want 0, 1", count, n, e)
		}
	}
}

func TestBetweenExamples(t *testing.T) {
	for i, r := range []struct {
		from, to              int
		thirty, fixed, actual int64
	}{
		{day(2023, 1, 31), day(2023, 3, 1), 31, 29, 29 * 366},
		{day(2023, 1, 30), day(2023, 3, 1), 31, 30, 30 * 366},
		{day(2023, 1, 29), day(2023, 3, 1), 32, 31, 31 * 366},
		// A day 31 counts as 30, at either end.
		{day(2023, 1, 30), day(2023, 1, 31), 0, 1, 366},
		{day(2023, 1, 31), day(2023, 2, 1), 1, 1, 366},
		{day(2023, 1, 1), day(2023, 1, 31), 29, 30, 30 * 366},
		{day(2023, 1, 31), day(2023, 3, 31), 60, 59, 59 * 366},
		{day(2023, 1, 15), day(2023, 3, 31), 75, 75, 75 * 366},
		{day(2023, 12, 31), day(2024, 12, 31), 360, 366, 366 + 365*365},
		// The last day of a February counts as no other than its own.
		{day(2023, 2, 28), day(2023, 3, 1), 3, 1, 366},
		{day(2024, 2, 29), day(2024, 3, 1), 2, 1, 365},
		{day(2024, 2, 28), day(2024, 3, 1), 3, 2, 2 * 365},
		{day(2023, 2, 28), day(2023, 3, 31), 32, 31, 31 * 366},
		{day(2023, 1, 31), day(2023, 2, 28), 28, 28, 28 * 366},
		{day(2023, 2, 28), day(2024, 2, 28), 360, 365, 307*366 + 58*365},
		{day(2024, 2, 29), day(2025, 2, 28), 359, 365, 307*365 + 58*366},
		// A day's parts are those of its own year, also where to is the first one of another.
		{day(2023, 12, 31), day(2024, 1, 1), 1, 1, 366},
		{day(2024, 12, 31), day(2025, 1, 1), 1, 1, 365},
		{day(2023, 12, 30), day(2024, 1, 2), 2, 3, 366 + 366 + 365},
		{day(2024, 12, 30), day(2025, 1, 2), 2, 3, 365 + 365 + 366},
		// Years that are no long ones, and one that is.
		{day(1900, 2, 28), day(1900, 3, 1), 3, 1, 366},
		{day(2000, 2, 28), day(2000, 3, 1), 3, 2, 2 * 365},
		{day(2100, 2, 28), day(2100, 3, 1), 3, 1, 366},
		{day(1969, 12, 31), day(1970, 1, 2), 2, 2, 2 * 366},
		{day(2024, 5, 10), day(2024, 5, 10), 0, 0, 0},
		{api.FirstDay, api.FirstDay, 0, 0, 0},
		{api.LastDay, api.LastDay, 0, 0, 0},
		{api.FirstDay, api.LastDay, 360*300 + 359, 109_937, 300*133_590 + 364*366},
	} {
		for k, want := range []int64{r.thirty, r.fixed, r.actual} {
			n, e := fraction.Between(counts()[k], r.from, r.to)
			back, backErrno := fraction.Between(counts()[k], r.to, r.from)
			if n != want || e != api.OK || back != -want || backErrno != api.OK {
				t.Errorf("P6.1: Between of the row %d, count %d: %d, error %d, and back %d, error %d; want %d, 0", i, counts()[k], n, e, back, backErrno, want)
			}
		}
	}
}

func TestBetweenOfEveryDay(t *testing.T) {
	sums := sums()
	anchors := []int{api.FirstDay, day(1999, 12, 31), day(2024, 2, 29), api.LastDay}
	for n := api.FirstDay; n <= api.LastDay; n++ {
		for _, anchor := range anchors {
			checkBetween(t, sums, anchor, n)
		}
		checkBetween(t, sums, n, min(n+1, api.LastDay))
	}
}

func TestBetweenOfEverySpanOfSomeYears(t *testing.T) {
	sums := sums()
	// Short years and long ones, and one that the rule of centuries makes short.
	for _, year := range []int{1900, 1969, 1999, 2023, 2099, 2199} {
		for from := day(year, 1, 1); from <= day(year+1, 12, 31); from++ {
			for to := from; to <= day(year+1, 12, 31); to++ {
				checkBetween(t, sums, from, to)
			}
		}
	}
}

// TestAnyWholeYear: from a day to the same one of the next year it is a year's parts of Thirty; of Actual
// it is so from a first of January on.
func TestAnyWholeYear(t *testing.T) {
	for year := 1900; year < 2200; year++ {
		for _, count := range []int{api.Thirty, api.Actual} {
			want, _ := fraction.Parts(count)
			if n, e := fraction.Between(count, day(year, 1, 1), day(year+1, 1, 1)); n != want || e != api.OK {
				t.Errorf("P6.1: Between of count %d, the year %d: %d, error %d; want %d, 0", count, year, n, e, want)
			}
		}
		for month := 1; month <= 12; month++ {
			for _, d := range []int{1, 15, 28} {
				if n, e := fraction.Between(api.Thirty, day(year, month, d), day(year+1, month, d)); n != 360 || e != api.OK {
					t.Errorf("P6.1: Between of Thirty, from %d-%d-%d on: %d, error %d; want 360, 0", year, month, d, n, e)
				}
			}
		}
	}
}

func TestBetweenSplitsAnywhere(t *testing.T) {
	days := []int{
		api.FirstDay, day(1900, 2, 28), day(1969, 12, 31), 0, day(2023, 1, 31), day(2023, 2, 28), day(2023, 12, 31),
		day(2024, 1, 1), day(2024, 1, 30), day(2024, 2, 29), day(2024, 3, 31), day(2100, 3, 1), api.LastDay,
	}
	for _, count := range counts() {
		for _, a := range days {
			for _, b := range days {
				for _, c := range days {
					ab, _ := fraction.Between(count, a, b)
					bc, _ := fraction.Between(count, b, c)
					if ac, e := fraction.Between(count, a, c); ac != ab+bc || e != api.OK {
						t.Errorf("P6.1: Between(%d, %d, %d), split at %d: %d, error %d; want %d and %d", count, a, c, b, ac, e, ab, bc)
					}
				}
			}
		}
	}
}

func TestBetweenRefuses(t *testing.T) {
	check := func(count, from, to int, want api.Errno) {
		t.Helper()
		if n, e := fraction.Between(count, from, to); n != 0 || e != want {
			t.Errorf("P6.1: Between(%d, %d, %d): %d, error %d; want 0, %d", count, from, to, n, e, want)
		}
	}
	known := []int{api.FirstDay, -1, 0, 1, day(2024, 2, 29), api.LastDay}
	for _, count := range counts() {
		for _, n := range beyond() {
			for _, day := range known {
				check(count, n, day, api.ErrDay)
				check(count, day, n, api.ErrDay)
			}
			// Also where nothing would lie between.
			check(count, n, n, api.ErrDay)
		}
		check(count, math.MinInt, math.MaxInt, api.ErrDay)
		check(count, math.MaxInt, math.MinInt, api.ErrDay)
	}
	for _, count := range noCounts() {
		check(count, 0, 0, api.ErrArg)
		check(count, api.FirstDay, api.LastDay, api.ErrArg)
		// What is no count is refused ahead of what is no day.
		for _, n := range beyond() {
			check(count, n, 0, api.ErrArg)
			check(count, 0, n, api.ErrArg)
			check(count, n, n, api.ErrArg)
		}
	}
}
