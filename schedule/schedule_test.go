package schedule_test

import (
	"math"
	"math/rand"
	"slices"
	"sync"
	"testing"

	"quittance/api"
	"quittance/civil"
	"quittance/dues"
	"quittance/schedule"
)

const unit = api.Unit

// loan is a product of so many instalments, a month between each and the next, of twelve months of thirty
// days, rounded to the nearest.
func loan(kind, times, grace int, rate int64) api.Product {
	return api.Product{
		Name: "loan", Count: api.Thirty, Round: api.HalfUp, Kind: kind, Every: 1, Times: times, Grace: grace, Rate: rate,
		Order: [4]int{api.Fees, api.Penalty, api.Interest, api.Principal}, Over: api.HoldIt, Roll: api.Stay,
	}
}

// yearly is loan, a year between each instalment and the next.
func yearly(kind, times, grace int, rate int64) api.Product {
	return turned(loan(kind, times, grace, rate), func(p *api.Product) { p.Every = 12 })
}

// turned is a product with something turned in it.
func turned(p api.Product, turn func(p *api.Product)) api.Product {
	turn(&p)
	return p
}

// down is a product that rounds down.
func down(p api.Product) api.Product {
	return turned(p, func(p *api.Product) { p.Round = api.Down })
}

// counting is a product that counts so.
func counting(p api.Product, count int) api.Product {
	return turned(p, func(p *api.Product) { p.Count = count })
}

// day is the number of a day.
func day(year, month, d int) int {
	n, errno := civil.Number(api.Date{Year: year, Month: month, Day: d})
	if errno != api.OK {
		panic(errno)
	}
	return n
}

// shut is so many days from from on, without those of a weekend.
func shut(from, many int) []int {
	l := []int{}
	for d := from; len(l) < many; d++ {
		if week := ((d+3)%7 + 7) % 7; week < 5 {
			l = append(l, d)
		}
	}
	return l
}

// delayed is a product whose instalment that would be due on from waits for so many holidays to pass.
func delayed(p api.Product, from, many int) api.Product {
	p.Roll, p.Holidays = api.Next, shut(from, many)
	return p
}

// zeros is a list of so many zeros.
func zeros(many int) []int64 { return make([]int64, many) }

// row is what is asked of Of, and the principal parts and the interest that it is to answer.
type row struct {
	p                   api.Product
	amount              int64
	principal, interest []int64
}

// hold holds Of against rows, and against the second reading.
func hold(t *testing.T, start int, rows []row) {
	t.Helper()
	for i, r := range rows {
		lines, e, _ := of(t, r.p, start, r.amount)
		due, _ := dues.Days(r.p, start)
		if e != api.OK || len(lines) != len(r.principal) || len(lines) != len(r.interest) {
			t.Errorf("P14.1: Of the row %d: %v, error %d; want %v", i, lines, e, r.principal)
			continue
		}
		left := r.amount
		for k, l := range lines {
			left -= r.principal[k]
			if want := (api.Line{Day: due[k], Principal: r.principal[k], Interest: r.interest[k], Left: left}); l != want {
				t.Errorf("P14.1: Of the row %d, the line %d: %+v; want %+v", i, k, l, want)
			}
		}
	}
}

func TestKinds(t *testing.T) {
	hold(t, day(2024, 1, 1), []row{
		// The example of the chapter.
		{loan(api.Bullet, 2, 0, 0), 100, []int64{0, 100}, zeros(2)},
		{loan(api.Bullet, 1, 0, 0), 100, []int64{100}, zeros(1)},
		{loan(api.Bullet, 4, 0, 120_000_000), 1000, []int64{0, 0, 0, 1000}, []int64{10, 10, 10, 10}},
		// The amount by the instalments, without rest: the last one has all that is left.
		{loan(api.Equal, 1, 0, 0), 100, []int64{100}, zeros(1)},
		{loan(api.Equal, 3, 0, 0), 99, []int64{33, 33, 33}, zeros(3)},
		{loan(api.Equal, 3, 0, 0), 100, []int64{33, 33, 34}, zeros(3)},
		{loan(api.Equal, 3, 0, 0), 101, []int64{33, 33, 35}, zeros(3)},
		{loan(api.Equal, 3, 0, 0), 102, []int64{34, 34, 34}, zeros(3)},
		{loan(api.Equal, 3, 0, 0), 2, []int64{0, 0, 2}, zeros(3)},
		{loan(api.Equal, 3, 0, 0), 3, []int64{1, 1, 1}, zeros(3)},
		{loan(api.Equal, 4, 0, 120_000_000), 4000, []int64{1000, 1000, 1000, 1000}, []int64{40, 30, 20, 10}},
		{yearly(api.Equal, 2, 0, unit), api.MaxLoan, []int64{api.MaxLoan / 2, api.MaxLoan / 2}, []int64{api.MaxLoan, api.MaxLoan / 2}},
		// The instalment less the interest; the last one has all that is left, and is less by a little.
		{loan(api.Annuity, 1, 0, 0), 100, []int64{100}, zeros(1)},
		{loan(api.Annuity, 1, 0, 120_000_000), 1000, []int64{1000}, []int64{10}},
		{loan(api.Annuity, 3, 0, 0), 99, []int64{33, 33, 33}, zeros(3)},
		{loan(api.Annuity, 3, 0, 0), 100, []int64{34, 34, 32}, zeros(3)},
		{loan(api.Annuity, 3, 0, 120_000_000), 100_000, []int64{33_003, 33_333, 33_664}, []int64{1000, 670, 337}},
		{yearly(api.Annuity, 2, 0, unit), 300, []int64{100, 200}, []int64{300, 200}},
		{yearly(api.Annuity, 1, 0, unit), api.MaxLoan, []int64{api.MaxLoan}, []int64{api.MaxLoan}},
		// At most what is left, and nothing is borne behind it.
		{loan(api.Annuity, 4, 0, 0), 1, []int64{1, 0, 0, 0}, zeros(4)},
		{loan(api.Annuity, 4, 0, 0), 5, []int64{2, 2, 1, 0}, zeros(4)},
		{loan(api.Annuity, 4, 0, 0), 6, []int64{2, 2, 2, 0}, zeros(4)},
		{yearly(api.Annuity, 3, 0, unit), 2, []int64{1, 1, 0}, []int64{2, 1, 0}},
	})
}

func TestGrace(t *testing.T) {
	hold(t, day(2024, 1, 1), []row{
		{loan(api.Equal, 3, 1, 0), 100, []int64{0, 50, 50}, zeros(3)},
		{loan(api.Equal, 3, 2, 0), 100, []int64{0, 0, 100}, zeros(3)},
		{loan(api.Equal, 5, 2, 0), 100, []int64{0, 0, 33, 33, 34}, zeros(5)},
		{loan(api.Equal, 5, 2, 120_000_000), 3000, []int64{0, 0, 1000, 1000, 1000}, []int64{30, 30, 30, 20, 10}},
		{loan(api.Annuity, 3, 1, 0), 101, []int64{0, 51, 50}, zeros(3)},
		{loan(api.Annuity, 3, 2, 120_000_000), 1000, []int64{0, 0, 1000}, []int64{10, 10, 10}},
		{yearly(api.Annuity, 4, 2, unit), 300, []int64{0, 0, 100, 200}, []int64{300, 300, 300, 200}},
		// In the Grace the instalment may be below the interest.
		{yearly(api.Annuity, 3, 1, unit/2), 1000, []int64{0, 400, 600}, []int64{500, 500, 300}},
		{delayed(yearly(api.Annuity, 2, 1, unit), day(2025, 1, 1), 199), 100, []int64{0, 100}, []int64{177, 23}},
	})
}

// TestRests: one bearer for all, so that the rest goes from line to line, and out of the Grace.
func TestRests(t *testing.T) {
	half := yearly(api.Bullet, 4, 0, unit/2)
	third := yearly(api.Bullet, 6, 0, 333_333_333)
	hold(t, day(2024, 1, 1), []row{
		{half, 1, []int64{0, 0, 0, 1}, []int64{1, 0, 1, 0}},
		{down(half), 1, []int64{0, 0, 0, 1}, []int64{0, 1, 0, 1}},
		{third, 1, []int64{0, 0, 0, 0, 0, 1}, []int64{0, 1, 0, 0, 1, 0}},
		{down(third), 1, []int64{0, 0, 0, 0, 0, 1}, []int64{0, 0, 0, 1, 0, 0}},
		{yearly(api.Equal, 4, 2, unit/4), 2, []int64{0, 0, 1, 1}, []int64{1, 0, 1, 0}},
		{down(yearly(api.Equal, 4, 2, unit/4)), 2, []int64{0, 0, 1, 1}, []int64{0, 1, 0, 0}},
		{down(yearly(api.Equal, 4, 1, unit/4)), 3, []int64{0, 1, 1, 1}, []int64{0, 1, 1, 0}},
		{down(yearly(api.Annuity, 3, 1, unit/2)), 1, []int64{0, 0, 1}, []int64{0, 1, 0}},
		{yearly(api.Annuity, 3, 1, unit/2), 1, []int64{0, 1, 0}, []int64{1, 0, 0}},
	})
}

// TestCounts: each count has its own parts of a year; from 1 January to 1 July 2024.
func TestCounts(t *testing.T) {
	p := turned(loan(api.Bullet, 2, 0, unit), func(p *api.Product) { p.Every = 6 })
	hold(t, day(2024, 1, 1), []row{
		{counting(p, api.Thirty), 133_590, []int64{0, 133_590}, []int64{66_795, 66_795}},
		{counting(p, api.Fixed), 133_590, []int64{0, 133_590}, []int64{182 * 366, 184 * 366}},
		{counting(p, api.Actual), 133_590, []int64{0, 133_590}, []int64{182 * 365, 184 * 365}},
	})
}

// TestHome has all lines of one loan of 1000.00, from 31 January on.
func TestHome(t *testing.T) {
	start := day(2024, 1, 31)
	hold(t, start, []row{{
		loan(api.Annuity, 12, 0, 52_500_000), 100_000,
		[]int64{8150, 8158, 8207, 8242, 8279, 8315, 8352, 8388, 8424, 8462, 8498, 8525},
		[]int64{423, 415, 366, 331, 294, 258, 221, 185, 149, 111, 75, 37},
	}})
	lines, _ := schedule.Of(loan(api.Annuity, 12, 0, 52_500_000), start, 100_000)
	for i, l := range lines {
		// The last day of each month from February on, if it is not behind the 31st.
		if want := day(2024+(i+1)/12, (i+1)%12+1, []int{29, 31, 30, 31, 30, 31, 31, 30, 31, 30, 31, 31}[i]); l.Day != want {
			t.Errorf("P14.1: the line %d is due on %d; want %d", i, l.Day, want)
		}
	}
}

// TestRolledDays: the days are those of dues, and what is borne hangs on them.
func TestRolledDays(t *testing.T) {
	p := yearly(api.Bullet, 2, 0, unit)
	p.Every = 1
	for i, r := range []struct {
		how           int
		holidays      []int
		first, last   int
		borne, behind int64
	}{
		// Saturday 1 June, Monday 1 July 2024.
		{api.Stay, nil, day(2024, 6, 1), day(2024, 7, 1), 30, 30},
		{api.Next, nil, day(2024, 6, 3), day(2024, 7, 1), 32, 28},
		{api.Previous, nil, day(2024, 5, 31), day(2024, 7, 1), 29, 31},
		{api.Within, nil, day(2024, 6, 3), day(2024, 7, 1), 32, 28},
		{api.Next, []int{day(2024, 6, 3), day(2024, 7, 1)}, day(2024, 6, 4), day(2024, 7, 2), 33, 28},
		{api.Previous, []int{day(2024, 5, 31), day(2024, 7, 1)}, day(2024, 5, 30), day(2024, 6, 28), 29, 28},
	} {
		p.Roll, p.Holidays = r.how, r.holidays
		lines, e, _ := of(t, p, day(2024, 5, 1), 360)
		want := []api.Line{{Day: r.first, Interest: r.borne, Left: 360}, {Day: r.last, Interest: r.behind, Principal: 360}}
		if e != api.OK || !slices.Equal(lines, want) {
			t.Errorf("P14.1: Of the row %d: %v, error %d; want %v", i, lines, e, want)
		}
	}
}

// TestRefused has next to each row that is refused one that is not.
func TestRefused(t *testing.T) {
	start := day(2024, 1, 1)
	steep := yearly(api.Annuity, 100, 0, unit)
	twice := delayed(loan(api.Annuity, 2, 0, 0), day(2024, 2, 1), 30)
	for i, r := range []struct {
		p      api.Product
		start  int
		amount int64
		want   api.Errno
	}{
		{loan(api.Annuity, 3, 0, 0), start, 100, api.OK},
		{api.Product{}, start, 100, api.ErrProduct},
		{loan(api.Bullet, 3, 1, 0), start, 100, api.ErrProduct},
		{loan(api.Equal, 3, 3, 0), start, 100, api.ErrProduct},
		{loan(api.Equal, 3, -1, 0), start, 100, api.ErrProduct},
		{loan(0, 3, 0, 0), start, 100, api.ErrProduct},
		{loan(4, 3, 0, 0), start, 100, api.ErrProduct},
		{loan(api.Equal, 0, 0, 0), start, 100, api.ErrProduct},
		{loan(api.Equal, 601, 0, 0), start, 100, api.ErrProduct},
		{loan(api.Equal, 600, 0, 0), start, 100, api.OK},
		{loan(api.Equal, 3, 0, unit+1), start, 100, api.ErrProduct},
		// Days that there are not, or that do not rise.
		{loan(api.Bullet, 1, 0, 0), api.LastDay - 31, 100, api.OK},
		{loan(api.Bullet, 1, 0, 0), api.LastDay - 30, 100, api.ErrDay},
		{loan(api.Bullet, 1, 0, 0), api.FirstDay, 100, api.OK},
		{loan(api.Bullet, 1, 0, 0), api.FirstDay - 1, 100, api.ErrDay},
		{loan(api.Bullet, 1, 0, 0), math.MinInt, 100, api.ErrDay},
		{loan(api.Bullet, 1, 0, 0), math.MaxInt, 100, api.ErrDay},
		{twice, start, 100, api.ErrDates},
		{delayed(loan(api.Annuity, 2, 0, 0), day(2024, 2, 1), 20), start, 100, api.OK},
		// What is paid out.
		{loan(api.Annuity, 3, 0, 0), start, 1, api.OK},
		{loan(api.Annuity, 3, 0, 0), start, 0, api.ErrAmount},
		{loan(api.Annuity, 3, 0, 0), start, -1, api.ErrAmount},
		{loan(api.Annuity, 3, 0, 0), start, math.MinInt64, api.ErrAmount},
		{loan(api.Annuity, 3, 0, 0), start, api.MaxLoan, api.OK},
		{loan(api.Annuity, 3, 0, 0), start, api.MaxLoan + 1, api.ErrAmount},
		{loan(api.Annuity, 3, 0, 0), start, math.MaxInt64, api.ErrAmount},
		{loan(api.Equal, 3, 0, unit), start, api.MaxLoan, api.OK},
		{loan(api.Equal, 3, 0, unit), start, api.MaxLoan + 1, api.ErrAmount},
		{loan(api.Equal, 3, 0, unit), start, 0, api.ErrAmount},
		{loan(api.Bullet, 3, 0, unit), start, api.MaxLoan, api.OK},
		{loan(api.Bullet, 3, 0, unit), start, api.MaxLoan + 1, api.ErrAmount},
		{loan(api.Bullet, 3, 0, unit), start, 0, api.ErrAmount},
		{steep, start, 1000, api.ErrSteep},
		{turned(steep, func(p *api.Product) { p.Kind = api.Equal }), start, 1000, api.OK},
		{turned(steep, func(p *api.Product) { p.Kind = api.Bullet }), start, 1000, api.OK},
		{turned(steep, func(p *api.Product) { p.Kind = api.Bullet }), start, api.MaxLoan, api.OK},
		// What is named first counts.
		{api.Product{}, math.MinInt, 0, api.ErrProduct},
		{loan(api.Annuity, 3, 0, 0), api.LastDay, 0, api.ErrDay},
		{twice, start, 0, api.ErrDates},
		{twice, start, api.MaxLoan + 1, api.ErrDates},
		{steep, start, 0, api.ErrAmount},
		{steep, start, api.MaxLoan + 1, api.ErrAmount},
	} {
		lines, e, _ := of(t, r.p, r.start, r.amount)
		if e != r.want || (len(lines) == r.p.Times && len(lines) > 0) != (e == api.OK) || e != api.OK && len(lines) > 0 {
			t.Errorf("P14.1: Of the row %d: %v, error %d; want %d", i, lines, e, r.want)
		}
	}
}

// TestSteep has principal parts about 0, and last instalments that are off by about as many as there are.
func TestSteep(t *testing.T) {
	begin := day(2025, 1, 1)
	for i, r := range []struct {
		p      api.Product
		amount int64
		how    why
	}{
		// The last one may be off by Times: of three, all of 2 is paid back with the second 3.
		{yearly(api.Annuity, 3, 0, unit), 2, spent},
		{yearly(api.Annuity, 3, 0, unit), 3, unalike},
		{yearly(api.Annuity, 4, 0, unit), 3, spent},
		{yearly(api.Annuity, 4, 0, unit), 4, unalike},
		{yearly(api.Annuity, 12, 0, unit), 11, spent},
		{yearly(api.Annuity, 12, 0, unit), 12, unalike},
		{yearly(api.Annuity, 120, 0, unit), 119, spent},
		{yearly(api.Annuity, 120, 0, unit), 120, unalike},
		// By Times, though not all of them pay back.
		{yearly(api.Annuity, 5, 1, unit), 4, spent},
		{yearly(api.Annuity, 5, 1, unit), 5, unalike},
		{yearly(api.Annuity, 5, 2, unit), 8, unalike},
		{yearly(api.Annuity, 12, 3, unit/2), 22, spent},
		{yearly(api.Annuity, 12, 3, unit/2), 24, unalike},
		{loan(api.Annuity, 60, 0, unit/100), 3453, spent},
		{loan(api.Annuity, 60, 0, unit/100), 3511, unalike},
		// The first instalment waits: what it bears is above what is paid back.
		{delayed(yearly(api.Annuity, 2, 0, unit), begin, 129), 1000, fine},
		{delayed(yearly(api.Annuity, 2, 0, unit), begin, 130), 1, fine},
		{delayed(yearly(api.Annuity, 2, 0, unit), begin, 130), 180, taking},
		{delayed(yearly(api.Annuity, 2, 0, unit), begin, 199), 1, fine},
		{delayed(yearly(api.Annuity, 2, 0, unit), begin, 199), 4, taking},
		{delayed(yearly(api.Annuity, 2, 0, unit), begin, 199), 1_000_001, taking},
		// So does the second one, behind the Grace, and without.
		{delayed(yearly(api.Annuity, 3, 1, unit), day(2026, 1, 1), 130), 180, taking},
		{delayed(yearly(api.Annuity, 3, 1, unit), begin, 130), 180, fine},
		{delayed(yearly(api.Annuity, 3, 0, unit), day(2026, 1, 1), 130), 225, taking},
		{delayed(yearly(api.Annuity, 60, 0, unit), begin, 199), 1000, both},
		// Other kinds are never too steep.
		{delayed(yearly(api.Equal, 2, 0, unit), begin, 199), 1_000_001, fine},
		{delayed(yearly(api.Bullet, 2, 0, unit), begin, 199), 1_000_001, fine},
		{yearly(api.Equal, 120, 0, unit), 120, fine},
	} {
		want := api.ErrSteep
		if r.how == fine || r.how == spent {
			want = api.OK
		}
		lines, e, how := of(t, r.p, day(2024, 1, 1), r.amount)
		if e != want || how != r.how || e != api.OK && len(lines) > 0 {
			t.Errorf("P14.2: Of the row %d: %v, error %d (%d); want %d (%d)", i, lines, e, how, want, r.how)
		}
	}
}

// TestSteepEdge has principal parts that are just 0, and just below: what is 0 may be.
func TestSteepEdge(t *testing.T) {
	begin, met, nothing := day(2025, 1, 1), map[why]int{}, 0
	for many := 125; many < 200; many += 3 {
		for amount := int64(1); amount <= 200; amount++ {
			lines, e, how := of(t, delayed(yearly(api.Annuity, 2, 0, unit), begin, many), day(2024, 1, 1), amount)
			met[how]++
			if e == api.OK && lines[0].Principal == 0 {
				nothing++
			}
		}
	}
	if met[taking] < 100 || met[fine] < 100 || nothing < 50 {
		t.Errorf("too few edges were met: %v, %d", met, nothing)
	}
	offs := map[int64]int{}
	for _, times := range []int{3, 4, 5, 7, 12, 30} {
		for amount := int64(1); amount <= 300; amount++ {
			p := yearly(api.Annuity, times, 0, unit/2)
			lines, e, _ := of(t, p, day(2024, 1, 1), amount)
			if e == api.OK {
				first, last := lines[0], lines[times-1]
				offs[int64(times)-(first.Principal+first.Interest-last.Principal-last.Interest)]++
			} else {
				offs[-1]++
			}
		}
	}
	if offs[0] < 20 || offs[1] < 20 || offs[-1] < 100 {
		t.Errorf("too few edges were met: %v", offs)
	}
}

// wild is a product of any kind.
func wild(r *rand.Rand) api.Product {
	times := 1 + r.Intn(600)>>r.Intn(10)
	p := loan(1+r.Intn(3), times, 0, r.Int63n(unit+1)>>r.Intn(30))
	p.Count, p.Round = 1+r.Intn(3), []int{api.HalfUp, api.Down}[r.Intn(2)]
	p.Every = []int{1, 2, 3, 4, 6, 12}[r.Intn(6)]
	if p.Kind != api.Bullet && r.Intn(3) == 0 {
		p.Grace = r.Intn(times)
	}
	p.Roll = 1 + r.Intn(4)
	if p.Roll != api.Stay {
		p.Holidays = shut(day(2000+r.Intn(120), 1+r.Intn(12), 1+r.Intn(28)), r.Intn(200)>>r.Intn(7))
	}
	return p
}

// waiting is a product of a few instalments at a high rate, one of which waits for long.
func waiting(r *rand.Rand, start int) api.Product {
	times := 2 + r.Intn(12)
	p := yearly(api.Annuity, times, r.Intn(times)*r.Intn(2), unit-r.Int63n(unit/2))
	p.Every = []int{1, 6, 12, 12, 12}[r.Intn(5)]
	return delayed(p, start+30*p.Every*(1+r.Intn(times)), 1+r.Intn(199))
}

// TestAnyLoans has loans of all kinds.
func TestAnyLoans(t *testing.T) {
	r := rand.New(rand.NewSource(14))
	met, errors := map[why]int{}, map[api.Errno]int{}
	for range 6_000 {
		p, start := wild(r), day(2000+r.Intn(120), 1+r.Intn(12), 1+r.Intn(28))
		amount := 1 + r.Int63n(api.MaxLoan)>>r.Intn(44)
		switch r.Intn(40) {
		case 0:
			amount = []int64{0, -1, api.MaxLoan + 1, math.MinInt64, math.MaxInt64}[r.Intn(5)]
		case 1:
			p.Grace = p.Times
		case 2:
			start = []int{api.FirstDay - 1, api.LastDay + 1, math.MinInt, math.MaxInt}[r.Intn(4)]
		case 3:
			amount = api.MaxLoan
		case 4, 5, 6:
			p = waiting(r, start)
		}
		_, e, how := of(t, p, start, amount)
		met[how]++
		errors[e]++
	}
	for _, e := range []api.Errno{api.ErrProduct, api.ErrDay, api.ErrDates, api.ErrAmount, api.ErrSteep, api.OK} {
		if errors[e] < 50 {
			t.Errorf("too few of the error %d: %v", e, errors)
		}
	}
	for _, how := range []why{fine, spent, taking, unalike, both} {
		if met[how] < 5 {
			t.Errorf("too few schedules that went so: %d: %v", how, met)
		}
	}
}

func TestWhatPlaysNoPart(t *testing.T) {
	plain := loan(api.Annuity, 5, 1, unit/10)
	other := plain
	other.Name, other.Penalty = "other-1", unit
	other.Resets = []api.Reset{{After: 1, Rate: unit}, {After: 3, Rate: 0}}
	other.Order = [4]int{api.Principal, api.Interest, api.Penalty, api.Fees}
	other.Over, other.Late, other.Cap = api.Refund, []api.Tier{{Days: 1, Fee: 7}}, 9
	for _, kind := range []int{api.Annuity, api.Equal, api.Bullet} {
		plain.Kind, other.Kind = kind, kind
		if kind == api.Bullet {
			plain.Grace, other.Grace = 0, 0
		}
		l, e, _ := of(t, plain, day(2024, 1, 31), 10_000)
		m, f, _ := of(t, other, day(2024, 1, 31), 10_000)
		if e != api.OK || f != api.OK || !slices.Equal(l, m) {
			t.Errorf("R8: Of the kind %d: %v, error %d; of the other product %v, %d", kind, l, e, m, f)
		}
	}
}

// TestListsStayAsTheyAre: what is handed in is not changed, what lies behind its end plays no part, and what
// is handed out is new memory.
func TestListsStayAsTheyAre(t *testing.T) {
	resets := []api.Reset{{After: 1, Rate: 7}, {After: 2, Rate: 8}, {After: -9, Rate: -9}}
	tiers := []api.Tier{{Days: 3, Fee: 7}, {Days: -9, Fee: -9}}
	days := []int{5, 6, -99}
	p := loan(api.Annuity, 3, 1, unit/10)
	p.Resets, p.Late, p.Holidays, p.Roll = resets[:2], tiers[:1], days[:2], api.Next
	first, _ := schedule.Of(p, 0, 10_000)
	kept := slices.Clone(first)
	for range 3 {
		lines, e := schedule.Of(p, 0, 10_000)
		if e != api.OK || !slices.Equal(lines, kept) || !slices.Equal(first, kept) {
			t.Errorf("R2, R3: again: %v, error %d; want %v (%v)", lines, e, kept, first)
		}
		// What is written into an answer, and what is asked between, and refused, plays no part.
		clear(lines[:cap(lines)])
		schedule.Of(loan(api.Annuity, 2, 0, unit), 0, -1)
		schedule.Of(yearly(api.Annuity, 100, 0, unit), 0, 1000)
	}
	if !slices.Equal(days, []int{5, 6, -99}) ||
		!slices.Equal(resets, []api.Reset{{After: 1, Rate: 7}, {After: 2, Rate: 8}, {After: -9, Rate: -9}}) ||
		!slices.Equal(tiers, []api.Tier{{Days: 3, Fee: 7}, {Days: -9, Fee: -9}}) {
		t.Errorf("R3: behind it the lists are %v, %v, %v", resets, tiers, days)
	}
	p.Resets, p.Late, p.Holidays = []api.Reset{}, []api.Tier{}, []int{}
	lines, e := schedule.Of(p, 0, 10_000)
	p.Resets, p.Late, p.Holidays = nil, nil, nil
	if l, f := schedule.Of(p, 0, 10_000); e != api.OK || f != api.OK || !slices.Equal(l, lines) {
		t.Errorf("R3: of empty lists: %v, error %d; of nil %v, %d", lines, e, l, f)
	}
}

// TestAtOnce has many ask at once, of lists that they share.
func TestAtOnce(t *testing.T) {
	const many = 16
	var group sync.WaitGroup
	var got [many][]api.Line
	p := delayed(loan(api.Annuity, 360, 12, 1_000_000), day(2030, 1, 1), 20)
	for i := range many {
		group.Go(func() {
			for k := range int64(8) {
				got[i], _ = schedule.Of(p, 20_000, 30_000_000-k)
			}
		})
	}
	group.Wait()
	for i := range many {
		if !slices.Equal(got[i], got[0]) || len(got[i]) != 360 {
			t.Errorf("R2: the asker %d: %v; want %v", i, got[i], got[0])
		}
	}
}
