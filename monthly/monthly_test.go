package monthly_test

import (
	"math"
	"slices"
	"testing"
	"time"

	"quittance/api"
	"quittance/monthly"
)

const daySeconds = 86_400

// at is that date by the library's calendar; day 0 is the last one of the month ahead.
func at(year, month, day int) time.Time {
	return time.Date(year, time.Month(month), day, 0, 0, 0, 0, time.UTC)
}

// day is the number of that date.
func day(year, month, day int) int {
	return int(at(year, month, day).Unix() / daySeconds)
}

// wantAdd is what Add is to answer of a day from FirstDay to LastDay, and of at most some 100,000 months.
func wantAdd(n, months int) (int, api.Errno) {
	from := time.Unix(int64(n)*daySeconds, 0).UTC()
	year, month := from.Year(), int(from.Month())+months
	first, last := at(year, month, 1), at(year, month+1, 0)
	if first.Year() < 1900 || first.Year() > 2200 {
		return 0, api.ErrDay
	}
	to := first.AddDate(0, 0, min(from.Day(), last.Day())-1)
	return int(to.Unix() / daySeconds), api.OK
}

func checkAdd(t *testing.T, n, months int) {
	t.Helper()
	want, wantErrno := wantAdd(n, months)
	if got, e := monthly.Add(n, months); got != want || e != wantErrno {
		t.Fatalf("P4.1: Add(%d, %d): %d, error %d; want %d, %d", n, months, got, e, want, wantErrno)
	}
}

func TestAddExamples(t *testing.T) {
	for i, r := range []struct {
		from, months, want int
	}{
		{day(2024, 1, 31), 1, day(2024, 2, 29)},
		{day(2023, 1, 31), 1, day(2023, 2, 28)},
		{day(2024, 1, 30), 1, day(2024, 2, 29)},
		{day(2024, 1, 29), 1, day(2024, 2, 29)},
		{day(2024, 1, 28), 1, day(2024, 2, 28)},
		{day(2024, 2, 29), 1, day(2024, 3, 29)},
		{day(2024, 2, 29), 12, day(2025, 2, 28)},
		{day(2024, 2, 29), 48, day(2028, 2, 29)},
		{day(2096, 2, 29), 48, day(2100, 2, 28)},
		{day(1996, 2, 29), 48, day(2000, 2, 29)},
		{day(2024, 3, 31), -1, day(2024, 2, 29)},
		{day(2024, 3, 31), 3, day(2024, 6, 30)},
		{day(2024, 4, 30), 1, day(2024, 5, 30)},
		{day(2024, 12, 31), 1, day(2025, 1, 31)},
		{day(2024, 1, 31), -1, day(2023, 12, 31)},
		{day(2024, 11, 15), 1, day(2024, 12, 15)},
		{day(2024, 12, 15), 0, day(2024, 12, 15)},
		{0, 1, 31},
		{0, -1, -31},
		{api.FirstDay, 0, api.FirstDay},
		{api.LastDay, 0, api.LastDay},
		{api.FirstDay, 3611, day(2200, 12, 1)},
		{api.LastDay, -3611, day(1900, 1, 31)},
		{day(1900, 1, 31), 3611, api.LastDay},
		{day(2200, 12, 1), -3611, api.FirstDay},
	} {
		if n, e := monthly.Add(r.from, r.months); n != r.want || e != api.OK {
			t.Errorf("P4.1: Add of the row %d: %d, error %d; want %d, 0", i, n, e, r.want)
		}
	}
}

func TestAddToEveryDay(t *testing.T) {
	for n := api.FirstDay; n <= api.LastDay; n++ {
		for _, months := range []int{0, 1, -1, 2, -2, 11, -11, 12, -12, 13, -13, 48, -48, 1200, -1200} {
			checkAdd(t, n, months)
		}
	}
}

func TestAddAnyMonths(t *testing.T) {
	for _, year := range []int{1900, 1901, 1970, 2000, 2023, 2024, 2199, 2200} {
		for month := 1; month <= 12; month++ {
			for _, n := range []int{day(year, month, 1), day(year, month, 28), day(year, month+1, 0)} {
				for months := -3700; months <= 3700; months++ {
					checkAdd(t, n, months)
				}
			}
		}
	}
}

func TestAddRefusesDays(t *testing.T) {
	for _, n := range []int{
		api.FirstDay - 1, api.LastDay + 1, api.FirstDay - 31, api.LastDay + 31, api.FirstDay - 366, api.LastDay + 366,
		math.MinInt32, math.MaxInt32, math.MinInt, math.MinInt + 1, math.MaxInt - 1, math.MaxInt,
	} {
		// A day that there is not is refused, also where so many months from it on there would be one.
		for _, months := range []int{0, 1, -1, 12, -12, math.MaxInt, math.MinInt} {
			if got, e := monthly.Add(n, months); got != 0 || e != api.ErrDay {
				t.Errorf("P4.1: Add(%d, %d): %d, error %d; want 0, 5", n, months, got, e)
			}
		}
	}
}

func TestAddRefusesMonths(t *testing.T) {
	for _, n := range []int{api.FirstDay, day(1900, 12, 31), -1, 0, day(2024, 2, 29), day(2200, 1, 1), api.LastDay} {
		for _, months := range []int{
			3612, -3612, 100_000, -100_000, math.MaxInt32, math.MinInt32, 1 << 62, -1 << 62,
			math.MaxInt, math.MaxInt - 1, math.MaxInt - 11, math.MaxInt - 3611,
			math.MinInt, math.MinInt + 1, math.MinInt + 11, math.MinInt + 3611,
		} {
			if got, e := monthly.Add(n, months); got != 0 || e != api.ErrDay {
				t.Errorf("P4.1: Add(%d, %d): %d, error %d; want 0, 5", n, months, got, e)
			}
		}
	}
	for i, r := range [][2]int{
		{api.FirstDay, -1}, {day(1900, 1, 31), -1}, {day(1900, 2, 1), -2}, {day(1900, 12, 31), -12},
		{api.LastDay, 1}, {day(2200, 12, 1), 1}, {day(2200, 11, 30), 2}, {day(2200, 1, 1), 12},
	} {
		if got, e := monthly.Add(r[0], r[1]); got != 0 || e != api.ErrDay {
			t.Errorf("P4.1: Add refused, the row %d: %d, error %d; want 0, 5", i, got, e)
		}
	}
}

func TestDatesExamples(t *testing.T) {
	for i, r := range []struct {
		start, every, times int
		want                []int
	}{
		{day(2024, 1, 31), 1, 4, []int{day(2024, 2, 29), day(2024, 3, 31), day(2024, 4, 30), day(2024, 5, 31)}},
		{day(2024, 1, 15), 1, 1, []int{day(2024, 2, 15)}},
		{day(2023, 12, 31), 2, 3, []int{day(2024, 2, 29), day(2024, 4, 30), day(2024, 6, 30)}},
		{day(2024, 11, 30), 3, 3, []int{day(2025, 2, 28), day(2025, 5, 30), day(2025, 8, 30)}},
		{day(2024, 2, 29), 12, 4, []int{day(2025, 2, 28), day(2026, 2, 28), day(2027, 2, 28), day(2028, 2, 29)}},
		{day(2200, 10, 31), 1, 2, []int{day(2200, 11, 30), api.LastDay}},
		{api.FirstDay, 1, 2, []int{day(1900, 2, 1), day(1900, 3, 1)}},
	} {
		if l, e := monthly.Dates(r.start, r.every, r.times); !slices.Equal(l, r.want) || e != api.OK {
			t.Errorf("P4.1: Dates of the row %d: %v, error %d; want %v, 0", i, l, e, r.want)
		}
	}
}

// wantDates is what Dates is to answer of a day from FirstDay to LastDay, and of arguments that may be.
func wantDates(start, every, times int) ([]int, api.Errno) {
	var l []int
	for k := 1; k <= times; k++ {
		n, e := wantAdd(start, k*every)
		if e != api.OK {
			return nil, e
		}
		l = append(l, n)
	}
	return l, api.OK
}

func TestDatesAreThoseOfAdd(t *testing.T) {
	starts := []int{api.FirstDay, day(1900, 1, 31), 0, day(2024, 1, 31), day(2024, 2, 29), day(2023, 4, 30), day(2150, 12, 31), day(2200, 6, 30), api.LastDay}
	for _, start := range starts {
		for every := 1; every <= 12; every++ {
			for _, times := range []int{1, 2, 3, 12, 13, 299, 300, 301, 599, api.MaxTimes} {
				want, wantErrno := wantDates(start, every, times)
				if l, e := monthly.Dates(start, every, times); !slices.Equal(l, want) || e != wantErrno {
					t.Errorf("P4.1: Dates(%d, %d, %d): %v, error %d; want %v, %d", start, every, times, l, e, want, wantErrno)
				}
			}
		}
	}
}

// TestDatesUpToTheLastYear: as many as there can be, up to the last day, and one more.
func TestDatesUpToTheLastYear(t *testing.T) {
	for every := 1; every <= 12; every++ {
		for _, times := range []int{1, 2, 300, api.MaxTimes - 1} {
			ahead := every * times
			if ahead > 3611 {
				continue
			}
			start := day(2200, 12-ahead+1, 0)
			if l, e := monthly.Dates(start, every, times); len(l) != times || e != api.OK {
				t.Errorf("P4.1: Dates(%d, %d, %d): %d of them, error %d; want all, 0", start, every, times, len(l), e)
			}
			if l, e := monthly.Dates(start, every, times+1); len(l) != 0 || e != api.ErrDay {
				t.Errorf("P4.1: Dates(%d, %d, %d): %d of them, error %d; want none, 5", start, every, times+1, len(l), e)
			}
		}
	}
}

func TestDatesRefused(t *testing.T) {
	for i, r := range []struct {
		start, every, times int
		want                api.Errno
	}{
		{0, 0, 1, api.ErrArg}, {0, -1, 1, api.ErrArg}, {0, 13, 1, api.ErrArg},
		{0, math.MaxInt, 1, api.ErrArg}, {0, math.MinInt, 1, api.ErrArg},
		{0, 1, 0, api.ErrArg}, {0, 1, -1, api.ErrArg}, {0, 1, api.MaxTimes + 1, api.ErrArg},
		{0, 1, math.MaxInt, api.ErrArg}, {0, 1, math.MinInt, api.ErrArg}, {0, 12, math.MaxInt, api.ErrArg},
		{0, math.MaxInt, math.MaxInt, api.ErrArg}, {0, 0, 0, api.ErrArg},
		// The arguments are held against their bounds ahead of the day.
		{api.LastDay + 1, 13, 1, api.ErrArg}, {api.FirstDay - 1, 1, 0, api.ErrArg},
		{math.MaxInt, 0, 1, api.ErrArg}, {math.MinInt, 1, api.MaxTimes + 1, api.ErrArg},
		{api.LastDay, 0, 1, api.ErrArg}, {api.LastDay, 1, 0, api.ErrArg},
		{api.LastDay + 1, 1, 1, api.ErrDay}, {api.FirstDay - 1, 1, 1, api.ErrDay},
		{math.MaxInt, 12, api.MaxTimes, api.ErrDay}, {math.MinInt, 12, api.MaxTimes, api.ErrDay},
		{api.LastDay, 1, 1, api.ErrDay}, {day(2200, 1, 1), 12, 1, api.ErrDay}, {day(2199, 1, 1), 12, 2, api.ErrDay},
		{day(2200, 11, 30), 1, 2, api.ErrDay}, {api.FirstDay, 12, api.MaxTimes, api.ErrDay},
	} {
		if l, e := monthly.Dates(r.start, r.every, r.times); len(l) != 0 || e != r.want {
			t.Errorf("P4.1: Dates refused, the row %d: %v, error %d; want none, %d", i, l, e, r.want)
		}
	}
}

func TestDatesAreNewMemory(t *testing.T) {
	first, _ := monthly.Dates(0, 1, 3)
	want := slices.Clone(first)
	for i := range first {
		first[i] = -1
	}
	if again, e := monthly.Dates(0, 1, 3); !slices.Equal(again, want) || e != api.OK {
		t.Errorf("R3: Dates, once more: %v, error %d; want %v, 0", again, e, want)
	}
}
