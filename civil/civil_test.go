package civil_test

import (
	"math"
	"strings"
	"testing"
	"time"

	"quittance/api"
	"quittance/civil"
)

// at is that date by the library's calendar; one that there is not is another one there.
func at(d api.Date) time.Time {
	return time.Date(d.Year, time.Month(d.Month), d.Day, 0, 0, 0, 0, time.UTC)
}

// of is a time's date.
func of(t time.Time) api.Date {
	return api.Date{Year: t.Year(), Month: int(t.Month()), Day: t.Day()}
}

// wantNumber is what Number is to answer of d.
func wantNumber(d api.Date) (int, api.Errno) {
	if d.Year < 1900 || d.Year > 2200 || of(at(d)) != d {
		return 0, api.ErrDay
	}
	return int(at(d).Unix() / 86_400), api.OK
}

func checkNumber(t *testing.T, d api.Date) {
	t.Helper()
	want, wantErrno := wantNumber(d)
	if n, e := civil.Number(d); n != want || e != wantErrno {
		t.Errorf("P3.1: Number(%+v): %d, error %d; want %d, %d", d, n, e, want, wantErrno)
	}
}

func TestEveryDay(t *testing.T) {
	day := at(api.Date{Year: 1900, Month: 1, Day: 1})
	for n := api.FirstDay; n <= api.LastDay; n++ {
		want := of(day)
		if d, e := civil.Date(n); d != want || e != api.OK {
			t.Fatalf("P3.1: Date(%d): %+v, error %d; want %+v, 0", n, d, e, want)
		}
		if k, e := civil.Number(want); k != n || e != api.OK {
			t.Fatalf("P3.1: Number(%+v): %d, error %d; want %d, 0", want, k, e, n)
		}
		if w := (int(day.Weekday()) + 6) % 7; civil.Weekday(n) != w {
			t.Fatalf("P3.1: Weekday(%d): %d; want %d", n, civil.Weekday(n), w)
		}
		text := day.Format(time.DateOnly)
		if s, e := civil.Text(n); s != text || e != api.OK {
			t.Fatalf("P3.2: Text(%d): %q, error %d; want %q, 0", n, s, e, text)
		}
		if k, e := civil.Take(text); k != n || e != api.OK {
			t.Fatalf("P3.2: Take(%q): %d, error %d; want %d, 0", text, k, e, n)
		}
		day = day.AddDate(0, 0, 1)
	}
	if want := (api.Date{Year: 2201, Month: 1, Day: 1}); of(day) != want {
		t.Errorf("P3.1: behind the last day: %+v; want %+v", of(day), want)
	}
}

func TestExamples(t *testing.T) {
	for _, r := range []struct {
		n       int
		d       api.Date
		s       string
		weekday int
	}{
		{0, api.Date{Year: 1970, Month: 1, Day: 1}, "1970-01-01", 3},
		{-1, api.Date{Year: 1969, Month: 12, Day: 31}, "1969-12-31", 2},
		{api.FirstDay, api.Date{Year: 1900, Month: 1, Day: 1}, "1900-01-01", 0},
		{api.LastDay, api.Date{Year: 2200, Month: 12, Day: 31}, "2200-12-31", 2},
		{19_782, api.Date{Year: 2024, Month: 2, Day: 29}, "2024-02-29", 3},
		{19_783, api.Date{Year: 2024, Month: 3, Day: 1}, "2024-03-01", 4},
		{11_016, api.Date{Year: 2000, Month: 2, Day: 29}, "2000-02-29", 1},
		{-25_508, api.Date{Year: 1900, Month: 3, Day: 1}, "1900-03-01", 3},
	} {
		d, dateErrno := civil.Date(r.n)
		s, textErrno := civil.Text(r.n)
		if d != r.d || dateErrno != api.OK {
			t.Errorf("P3.1: Date(%d): %+v, error %d; want %+v, 0", r.n, d, dateErrno, r.d)
		}
		if s != r.s || textErrno != api.OK {
			t.Errorf("P3.2: Text(%d): %q, error %d; want %q, 0", r.n, s, textErrno, r.s)
		}
		if n, e := civil.Number(r.d); n != r.n || e != api.OK {
			t.Errorf("P3.1: Number(%+v): %d, error %d; want %d, 0", r.d, n, e, r.n)
		}
		if n, e := civil.Take(r.s); n != r.n || e != api.OK {
			t.Errorf("P3.2: Take(%q): %d, error %d; want %d, 0", r.s, n, e, r.n)
		}
		if w := civil.Weekday(r.n); w != r.weekday {
			t.Errorf("P3.1: Weekday(%d): %d; want %d", r.n, w, r.weekday)
		}
	}
}

func TestDaysOutOfBounds(t *testing.T) {
	for _, n := range []int{
		api.FirstDay - 1, api.LastDay + 1, api.FirstDay - 366, api.LastDay + 366,
		math.MinInt32, math.MaxInt32, math.MinInt, math.MinInt + 1, math.MaxInt - 1, math.MaxInt,
	} {
		if d, e := civil.Date(n); d != (api.Date{}) || e != api.ErrDay {
			t.Errorf("P3.1: Date(%d): %+v, error %d; want none, 5", n, d, e)
		}
		if s, e := civil.Text(n); s != "" || e != api.ErrDay {
			t.Errorf("P3.2: Text(%d): %q, error %d; want none, 5", n, s, e)
		}
	}
}

func TestNumberOfDatesThatAreNot(t *testing.T) {
	for _, d := range []api.Date{
		{}, {Year: 2024}, {Year: 2024, Month: 1}, {Year: 2024, Day: 1}, {Month: 1, Day: 1},
		{Year: 1899, Month: 12, Day: 31}, {Year: 2201, Month: 1, Day: 1}, {Year: -2024, Month: 1, Day: 1},
		{Year: 1900, Month: 2, Day: 29}, {Year: 2100, Month: 2, Day: 29}, {Year: 2023, Month: 2, Day: 29},
		{Year: 2024, Month: 2, Day: 30}, {Year: 2024, Month: 4, Day: 31}, {Year: 2024, Month: 12, Day: 32},
		{Year: 2024, Month: 13, Day: 1}, {Year: 2024, Month: 0, Day: 1}, {Year: 2024, Month: -1, Day: 1},
		{Year: 2024, Month: 13, Day: 0}, {Year: 2024, Month: 0, Day: 0}, {Year: 2024, Month: 1, Day: -1},
		{Year: math.MinInt, Month: math.MinInt, Day: math.MinInt},
		{Year: math.MaxInt, Month: math.MaxInt, Day: math.MaxInt},
		{Year: 2024, Month: math.MaxInt, Day: 1}, {Year: 2024, Month: math.MinInt, Day: 1},
		{Year: 2024, Month: 1, Day: math.MaxInt}, {Year: 2024, Month: 1, Day: math.MinInt},
		{Year: math.MaxInt, Month: 1, Day: 1}, {Year: math.MinInt, Month: 1, Day: 1},
	} {
		if n, e := civil.Number(d); n != 0 || e != api.ErrDay {
			t.Errorf("P3.1: Number(%+v): %d, error %d; want 0, 5", d, n, e)
		}
	}
}

func TestNumberAroundEveryMonth(t *testing.T) {
	for year := 1898; year <= 2202; year++ {
		for month := -1; month <= 14; month++ {
			for _, day := range []int{-1, 0, 1, 2, 27, 28, 29, 30, 31, 32} {
				checkNumber(t, api.Date{Year: year, Month: month, Day: day})
			}
		}
	}
}

// TestLengths goes past the years whose days have numbers: Long and Month know of no bounds.
func TestLengths(t *testing.T) {
	for year := -900; year <= 3300; year++ {
		days := 0
		for month := 1; month <= 12; month++ {
			want := at(api.Date{Year: year, Month: month + 1, Day: 0}).Day()
			if got := civil.Month(year, month); got != want {
				t.Errorf("P3.1: Month(%d, %d): %d; want %d", year, month, got, want)
			}
			days += want
		}
		if civil.Long(year) != (days == 366) {
			t.Errorf("P3.1: Long(%d): %t, of %d days", year, civil.Long(year), days)
		}
	}
	for _, month := range []int{math.MinInt, -12, -1, 0, 13, 14, 24, math.MaxInt} {
		for _, year := range []int{math.MinInt, 0, 1900, 2023, 2024, math.MaxInt} {
			if got := civil.Month(year, month); got != 0 {
				t.Errorf("P3.1: Month(%d, %d): %d; want 0", year, month, got)
			}
		}
	}
}

func TestRuleOfLongYears(t *testing.T) {
	for year, want := range map[int]bool{
		1600: true, 1700: false, 1800: false, 1900: false, 1904: true, 1970: false, 2000: true, 2023: false,
		2024: true, 2100: false, 2200: false, 2400: true, -400: true, -100: false, -4: true, -1: false,
		math.MaxInt: false, math.MaxInt - 3: true, math.MinInt: true, math.MinInt + 8: false,
	} {
		if civil.Long(year) != want {
			t.Errorf("P3.1: Long(%d): %t", year, !want)
		}
		if days := civil.Month(year, 2); days != 28 && !want || days != 29 && want {
			t.Errorf("P3.1: Month(%d, 2): %d", year, days)
		}
	}
}

func TestWeekdayOfAnyDay(t *testing.T) {
	// 2^63 is 1 behind a multiple of 7 (as 2^3 is), and day 0 is a Thursday.
	for n, want := range map[int]int{
		-4: 6, -3: 0, 3: 6, 4: 0, 7: 3, -7: 3, 19_875: 5,
		math.MaxInt: 3, math.MaxInt - 1: 2, math.MaxInt - 3: 0, math.MaxInt - 4: 6,
		math.MinInt: 2, math.MinInt + 1: 3, math.MinInt + 4: 6, math.MinInt + 5: 0,
	} {
		if w := civil.Weekday(n); w != want {
			t.Errorf("P3.1: Weekday(%d): %d; want %d", n, w, want)
		}
	}
	for n := -1000; n < 1000; n++ {
		if w, next := civil.Weekday(n), civil.Weekday(n+1); w < 0 || w > 6 || next != (w+1)%7 {
			t.Errorf("P3.1: Weekday(%d): %d, then %d", n, w, next)
		}
	}
}

func TestTakeRefusesForms(t *testing.T) {
	for _, s := range []string{
		"", "-", "--", "2024", "2024-02", "20240229", "2024-2-29", "2024-02-9", "24-02-29", "02024-02-29",
		"2024-02-290", "2024-002-29", "2024-02-29 ", " 2024-02-29", "2024-02-29\n", "2024-02-29\x00",
		"2024-02-2", "024-02-029", "+024-02-29", "-024-02-29", "2024-+2-29", "2024--2-29", "2024-02--9",
		"2024-02-+9", "2024-02- 9", "2024-0x2-9", "2024_02_29", "2024/02/29", "2024.02.29", "2024:02:29",
		"29-02-2024", "202-402-29", "20240-2-29", "2024-022-9", "2024-02029", "2024002-29", "----------",
		"0000000000", "\u06602024-02-", "2024-\u0660-29", "2024-02-\u0660", "\xff024-02-29", "2024\u201002-2",
	} {
		if n, e := civil.Take(s); n != 0 || e != api.ErrForm {
			t.Errorf("P3.2: Take(%q): %d, error %d; want 0, 4", s, n, e)
		}
	}
}

func TestTakeOfAnyByteAnywhere(t *testing.T) {
	const text = "2024-11-11"
	for i := range len(text) {
		for b := range 256 {
			s := text[:i] + string([]byte{byte(b)}) + text[i+1:]
			// The library's taker refuses also what is no day; the form alone is told by the bytes.
			formed := strings.IndexByte("0123456789", byte(b)) >= 0
			if text[i] == '-' {
				formed = b == '-'
			}
			want, wantErrno := 0, api.ErrForm
			if formed {
				want, wantErrno = 0, api.ErrDay
				if day, err := time.Parse(time.DateOnly, s); err == nil {
					want, wantErrno = wantNumber(of(day))
				}
			}
			if n, e := civil.Take(s); n != want || e != wantErrno {
				t.Errorf("P3.2: Take(%q): %d, error %d; want %d, %d", s, n, e, want, wantErrno)
			}
		}
	}
}

func TestTakeRefusesDays(t *testing.T) {
	for _, s := range []string{
		"0000-00-00", "1899-12-31", "2201-01-01", "0001-01-01", "9999-12-31", "9999-99-99", "2024-00-01",
		"2024-01-00", "2024-13-01", "2024-99-01", "2024-01-32", "2024-01-99", "2024-04-31", "2024-02-30",
		"2023-02-29", "1900-02-29", "2100-02-29",
	} {
		if n, e := civil.Take(s); n != 0 || e != api.ErrDay {
			t.Errorf("P3.2: Take(%q): %d, error %d; want 0, 5", s, n, e)
		}
	}
}
