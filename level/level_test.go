package level_test

import (
	"math"
	"math/rand"
	"slices"
	"sync"
	"testing"

	"quittance/api"
	"quittance/level"
	"quittance/product"
)

// loan is a product of so many instalments.
func loan(count, round, times, grace int, rate int64) api.Product {
	return api.Product{
		Name: "level", Count: count, Round: round, Kind: api.Annuity, Every: 1, Times: times, Grace: grace, Rate: rate,
		Order: [4]int{api.Fees, api.Penalty, api.Interest, api.Principal}, Over: api.HoldIt, Roll: api.Stay,
	}
}

// thirty is one of twelve months of thirty days, rounded to the nearest.
func thirty(times, grace int, rate int64) api.Product {
	return loan(api.Thirty, api.HalfUp, times, grace, rate)
}

// alike is a list of so many parts.
func alike(times int, parts int64) []int64 {
	return slices.Repeat([]int64{parts}, times)
}

// row is what is asked of Left, and what it is to answer.
type row struct {
	p                  api.Product
	parts              []int64
	amount, instalment int64
	want               int64
}

// hold holds Left against rows, and against the second reading.
func hold(t *testing.T, rows []row) {
	t.Helper()
	for i, r := range rows {
		if v, e := level.Left(r.p, r.parts, r.amount, r.instalment); v != r.want || e != api.OK {
			t.Errorf("P13.1: Left of the row %d: %d, error %d; want %d, 0", i, v, e, r.want)
		}
		left(t, r.p, r.parts, r.amount, r.instalment)
	}
}

const unit = api.Unit

func TestLeft(t *testing.T) {
	hold(t, []row{
		// Nothing is borne: three parts of 34 pay back 100.
		{thirty(3, 0, 0), alike(3, 30), 100, 33, 1},
		{thirty(3, 0, 0), alike(3, 30), 100, 34, -2},
		{thirty(3, 0, 0), alike(3, 30), 100, 0, 100},
		// 1000.00 at 5.25%: 4.375 in the first month, that is 4.38, and half of 0.01 less to go on with.
		{thirty(2, 0, 52_500_000), alike(2, 30), 100_000, 50_000, 658},
		{thirty(2, 0, 52_500_000), alike(2, 30), 100_000, 50_328, 1},
		{thirty(2, 0, 52_500_000), alike(2, 30), 100_000, 50_329, -1},
		// In the Grace what is borne is not added, and nothing is paid back.
		{thirty(2, 1, unit), alike(2, 360), 100, 150, 50},
		{thirty(3, 2, unit), alike(3, 360), 100, 200, 0},
		{thirty(3, 2, unit), alike(3, 360), 100, 0, 200},
		{thirty(4, 2, unit), alike(4, 360), 100, 60, 220},
		// Each part bears for itself.
		{thirty(3, 0, unit), []int64{0, 360, 720}, 100, 10, 500},
		{thirty(3, 0, unit), []int64{720, 360, 0}, 100, 10, 560},
		{thirty(3, 1, unit), []int64{720, 0, 360}, 100, 10, 170},
		// How is counted: a year is 360, 365 or 133,590 parts.
		{loan(api.Fixed, api.HalfUp, 1, 0, unit), alike(1, 365), 100, 7, 193},
		{loan(api.Actual, api.HalfUp, 1, 0, unit), alike(1, 133_590), 100, 7, 193},
		{thirty(1, 0, unit), alike(1, 365), 720, 7, 1443},
		{loan(api.Actual, api.Down, 1, 0, unit), alike(1, 133_589), 100, 7, 192},
		{loan(api.Actual, api.HalfUp, 1, 0, unit), alike(1, 133_589), 100, 7, 193},
		// How is rounded: a half, and what is less.
		{thirty(1, 0, unit), alike(1, 180), 1, 0, 2},
		{thirty(1, 0, unit), alike(1, 179), 1, 0, 1},
		{loan(api.Thirty, api.Down, 1, 0, unit), alike(1, 359), 1, 0, 1},
		{loan(api.Thirty, api.Down, 1, 0, unit), alike(1, 360), 1, 0, 2},
		// One bearer for all: the rest goes from part to part, out of the Grace, too.
		{loan(api.Thirty, api.Down, 2, 0, unit), alike(2, 180), 1, 0, 2},
		{loan(api.Thirty, api.Down, 3, 0, unit), []int64{180, 179, 1}, 1, 0, 2},
		{loan(api.Thirty, api.Down, 3, 0, unit), []int64{180, 179, 0}, 1, 0, 1},
		{loan(api.Thirty, api.Down, 2, 1, unit), alike(2, 180), 1, 0, 2},
		{loan(api.Thirty, api.Down, 3, 2, unit), []int64{120, 120, 120}, 1, 0, 2},
		{thirty(2, 1, unit), alike(2, 90), 1, 0, 2},
		{thirty(2, 1, unit), alike(2, 180), 1, 0, 1},
		// The end, at the first part behind which the balance is 0, or below.
		{thirty(3, 0, 0), alike(3, 30), 100, 99, -98},
		{thirty(3, 0, 0), alike(3, 30), 100, 100, 0},
		{thirty(3, 0, 0), alike(3, 30), 100, 101, -1},
		{thirty(3, 0, 0), alike(3, 30), 100, top, 100 - top},
		{thirty(3, 1, unit), []int64{0, 0, 720}, 1, 1, 0},
		{thirty(1, 0, 0), alike(1, 0), 1, top, 1 - top},
	})
}

// TestLeftAbove has balances about MaxMoney.
func TestLeftAbove(t *testing.T) {
	const lent = api.MaxLoan
	hold(t, []row{
		// 10^13 bears 99 times itself: MaxMoney in all.
		{thirty(1, 0, unit), alike(1, 35_640), lent, 0, top},
		{thirty(1, 0, unit), alike(1, 35_640), lent, 1, top - 1},
		{thirty(1, 0, unit), alike(1, 35_640), lent, top, 0},
		{thirty(1, 0, unit), alike(1, 35_641), lent, 0, top + 1},
		{thirty(1, 0, unit), alike(1, 35_641), lent, 27_777_777_777, top + 1},
		{thirty(1, 0, unit), alike(1, 35_641), lent, 27_777_777_778, top},
		// Of MaxMoney the walk goes on; of one more it ends.
		{thirty(2, 0, unit), []int64{36_000, 0}, lent, lent, top - lent},
		{thirty(2, 0, unit), []int64{36_000, 0}, lent, lent - 1, top + 1},
		{thirty(2, 0, unit), []int64{36_000, 0}, lent, lent + 1, top - lent - 2},
		{thirty(2, 0, unit), []int64{35_640, 1}, lent, 0, top + 1},
		{thirty(2, 0, unit), []int64{35_640, 0}, lent, 0, top},
		// It has ended, though the parts behind would lead back.
		{thirty(2, 0, unit), []int64{35_999, 0}, lent, lent - 27_777_777_779, top + 1},
		{thirty(2, 0, unit), []int64{35_999, 0}, lent, lent - 27_777_777_778, top - lent + 27_777_777_778},
		// What is borne is MaxMoney, and fits; one part more does not, whatever is paid back.
		{thirty(1, 0, unit), alike(1, 36_000), lent, top, lent},
		{thirty(1, 0, unit), alike(1, 36_001), lent, top, top + 1},
		{thirty(2, 0, unit), []int64{36_000, 0}, lent, top, lent - top},
		{thirty(2, 0, unit), []int64{36_001, 0}, lent, top, top + 1},
		{thirty(2, 0, unit), []int64{35_640, 360}, lent, 0, top + 1},
		{thirty(2, 0, unit), []int64{35_640, 361}, lent, 0, top + 1},
		// In the Grace, too.
		{thirty(2, 1, unit), []int64{36_000, 0}, lent, top, lent - top},
		{thirty(2, 1, unit), []int64{36_000, 0}, lent, 1, lent - 1},
		{thirty(2, 1, unit), []int64{36_001, 0}, lent, top, top + 1},
		{thirty(2, 1, unit), []int64{36_001, 0}, lent, 1, top + 1},
		{thirty(3, 2, unit), []int64{36_000, 36_001, 0}, lent, top, top + 1},
		{thirty(3, 2, unit), []int64{36_000, 36_000, 0}, lent, top, lent - top},
		// The most parts.
		{thirty(1, 0, unit), alike(1, mostParts), lent, top, top + 1},
		{thirty(1, 0, unit), alike(1, mostParts), 1, 0, 743},
		{loan(api.Actual, api.HalfUp, 1, 0, unit), alike(1, mostParts), lent, 0, 3 * lent},
		{loan(api.Actual, api.HalfUp, 4, 0, unit), alike(4, mostParts), lent, 0, 81 * lent},
		{loan(api.Actual, api.HalfUp, 5, 0, unit), alike(5, mostParts), lent, 0, top + 1},
		{loan(api.Actual, api.HalfUp, 600, 0, unit), alike(600, mostParts), 1, 0, top + 1},
		{loan(api.Actual, api.HalfUp, 600, 599, unit), alike(600, mostParts), 1, 0, 3},
	})
}

// faults are what Left and Of refuse alike, and next to each what they do not.
func faults() []struct {
	p      api.Product
	parts  []int64
	amount int64
	want   api.Errno
} {
	good := thirty(3, 1, unit/20)
	bad := good
	bad.Grace = 3
	return []struct {
		p      api.Product
		parts  []int64
		amount int64
		want   api.Errno
	}{
		{good, alike(3, 30), 100, api.OK},
		{api.Product{}, alike(3, 30), 100, api.ErrProduct},
		{bad, alike(3, 30), 100, api.ErrProduct},
		{thirty(3, -1, unit), alike(3, 30), 100, api.ErrProduct},
		{thirty(0, 0, unit), nil, 100, api.ErrProduct},
		{thirty(601, 0, unit), alike(601, 1), 100, api.ErrProduct},
		{thirty(600, 0, unit/100), alike(600, 1), 100, api.OK},
		{thirty(3, 0, unit+1), alike(3, 30), 100, api.ErrProduct},
		{thirty(3, 0, unit), alike(3, 30), 100, api.OK},
		{loan(0, api.HalfUp, 3, 0, 0), alike(3, 30), 100, api.ErrProduct},
		{loan(api.Thirty, api.HalfEven, 3, 0, 0), alike(3, 30), 100, api.ErrProduct},
		// As many parts as instalments.
		{good, nil, 100, api.ErrArg},
		{good, []int64{}, 100, api.ErrArg},
		{good, alike(2, 30), 100, api.ErrArg},
		{good, alike(4, 30), 100, api.ErrArg},
		{good, alike(1<<16+3, 30), 100, api.ErrArg},
		{thirty(1, 0, 0), nil, 100, api.ErrArg},
		{thirty(1, 0, 0), alike(1, 0), 100, api.OK},
		{thirty(600, 0, 0), alike(599, 0), 100, api.ErrArg},
		{thirty(600, 0, 0), alike(601, 0), 100, api.ErrArg},
		// Each of them, in the Grace, ahead of the end, and behind it.
		{good, []int64{-1, 30, 30}, 100, api.ErrArg},
		{good, []int64{30, -1, 30}, 100, api.ErrArg},
		{good, []int64{30, 30, -1}, 100, api.ErrArg},
		{good, []int64{0, 0, 0}, 100, api.OK},
		{good, []int64{mostParts + 1, 30, 30}, 100, api.ErrArg},
		{good, []int64{30, mostParts + 1, 30}, 100, api.ErrArg},
		{good, []int64{30, 30, mostParts + 1}, 100, api.ErrArg},
		{good, []int64{mostParts, mostParts, mostParts}, 100, api.OK},
		{good, []int64{math.MinInt64, 30, 30}, 100, api.ErrArg},
		{good, []int64{30, 30, math.MaxInt64}, 100, api.ErrArg},
		{good, []int64{30, 1 << 32, 30}, 100, api.ErrArg},
		// What is paid out.
		{good, alike(3, 30), 0, api.ErrArg},
		{good, alike(3, 30), 1, api.OK},
		{good, alike(3, 30), -1, api.ErrArg},
		{good, alike(3, 30), math.MinInt64, api.ErrArg},
		{good, alike(3, 30), api.MaxLoan, api.OK},
		{good, alike(3, 30), api.MaxLoan + 1, api.ErrArg},
		{good, alike(3, 30), math.MaxInt64, api.ErrArg},
		// What is named first counts.
		{api.Product{}, nil, 0, api.ErrProduct},
		{bad, []int64{-1}, math.MinInt64, api.ErrProduct},
		// What may not be is refused ahead of what is too steep.
		{thirty(3, 0, unit), alike(3, mostParts), api.MaxLoan + 1, api.ErrArg},
		{thirty(3, 0, unit), alike(4, mostParts), api.MaxLoan, api.ErrArg},
		{thirty(3, 0, unit), []int64{mostParts, mostParts, mostParts + 1}, api.MaxLoan, api.ErrArg},
	}
}

func TestRefused(t *testing.T) {
	for i, r := range faults() {
		for _, by := range []int64{0, 1, 60, top} {
			if v, e := level.Left(r.p, r.parts, r.amount, by); e != r.want || e != api.OK && v != 0 {
				t.Errorf("P13.1: Left of the row %d, by %d: %d, error %d; want the error %d", i, by, v, e, r.want)
			}
		}
		wrong := r.want
		if wrong == api.OK {
			wrong = api.ErrArg
		}
		for _, by := range []int64{-1, top + 1, math.MinInt64, math.MaxInt64} {
			if v, e := level.Left(r.p, r.parts, r.amount, by); v != 0 || e != wrong {
				t.Errorf("P13.1: Left of the row %d, by %d: %d, error %d; want 0, %d", i, by, v, e, wrong)
			}
		}
		if v, e := level.Of(r.p, r.parts, r.amount); e != r.want || (v > 0) != (e == api.OK) {
			t.Errorf("P13.1: Of the row %d: %d, error %d; want the error %d", i, v, e, r.want)
		}
		of(t, r.p, r.parts, r.amount)
	}
}

func TestOf(t *testing.T) {
	for i, r := range []struct {
		p            api.Product
		parts        []int64
		amount, want int64
		errno        api.Errno
	}{
		// The example of the chapter.
		{thirty(3, 0, 0), alike(3, 30), 100, 34, api.OK},
		{thirty(3, 0, 0), alike(3, 30), 99, 33, api.OK},
		{thirty(3, 0, 0), alike(3, 30), 1, 1, api.OK},
		{thirty(600, 0, 0), alike(600, 30), 600, 1, api.OK},
		{thirty(600, 0, 0), alike(600, 30), 601, 2, api.OK},
		{thirty(1, 0, 0), alike(1, 0), api.MaxLoan, api.MaxLoan, api.OK},
		{thirty(2, 0, 52_500_000), alike(2, 30), 100_000, 50_329, api.OK},
		{thirty(12, 0, 52_500_000), alike(12, 30), 100_000, 8_573, api.OK},
		{thirty(1, 0, unit), alike(1, 360), 1000, 2000, api.OK},
		{thirty(2, 0, unit), alike(2, 360), 300, 400, api.OK},
		{thirty(4, 2, unit), alike(4, 360), 300, 400, api.OK},
		{thirty(3, 2, 0), alike(3, 30), 77, 77, api.OK},
		// The greatest instalment, and what is just above it.
		{thirty(1, 0, unit), alike(1, 35_640), api.MaxLoan, top, api.OK},
		{thirty(1, 0, unit), alike(1, 35_641), api.MaxLoan, 0, api.ErrSteep},
		{thirty(1, 0, unit), alike(1, 36_000), api.MaxLoan, 0, api.ErrSteep},
		{thirty(1, 0, unit), alike(1, 36_001), api.MaxLoan, 0, api.ErrSteep},
		{thirty(2, 0, unit), []int64{36_000, 35_640}, api.MaxLoan, top, api.OK},
		{thirty(2, 0, unit), []int64{36_000, 35_641}, api.MaxLoan, 0, api.ErrSteep},
		{thirty(2, 0, unit), []int64{36_001, 0}, api.MaxLoan, 0, api.ErrSteep},
		{thirty(2, 1, unit), []int64{36_000, 0}, api.MaxLoan, api.MaxLoan, api.OK},
		{thirty(2, 1, unit), []int64{36_001, 0}, api.MaxLoan, 0, api.ErrSteep},
		{thirty(2, 1, unit), []int64{36_000, 35_640}, api.MaxLoan, top, api.OK},
		{thirty(2, 1, unit), []int64{36_000, 35_641}, api.MaxLoan, 0, api.ErrSteep},
		{loan(api.Fixed, api.Down, 600, 0, unit), alike(600, mostParts), 1, 733, api.OK},
	} {
		if v, e := level.Of(r.p, r.parts, r.amount); v != r.want || e != r.errno {
			t.Errorf("P13.1: Of the row %d: %d, error %d; want %d, %d", i, v, e, r.want, r.errno)
		}
		of(t, r.p, r.parts, r.amount)
	}
}

// TestSteepEdge has one part lead to just about MaxMoney, above which no instalment pays back.
func TestSteepEdge(t *testing.T) {
	met := map[int64]int{}
	for n := int64(35_640); n <= mostParts; n += 7 {
		p, year := thirty(1, 0, unit), int64(360)
		if n%2 == 0 {
			p, year = loan(api.Fixed, api.Down, 1, 0, unit), 365
		}
		about := top * year / (year + n)
		for amount := about - 1; amount <= about+1; amount++ {
			all, _, _ := second(p, []int64{n}, amount, top)
			if amount > api.MaxLoan || all < -1 || all > 1 {
				continue
			}
			met[all]++
			v, e := of(t, p, []int64{n}, amount)
			if all <= 0 && v != top+all || all > 0 && e != api.ErrSteep {
				t.Errorf("P13.1: Of %d in %d parts: %d, error %d; want %d", amount, n, v, e, top+all)
			}
			left(t, p, []int64{n}, amount, top)
			left(t, p, []int64{n}, amount, 0)
			left(t, p, []int64{n}, amount, 1)
		}
	}
	if met[-1] < 20 || met[0] < 20 || met[1] < 20 {
		t.Errorf("too few edges were met: %v", met)
	}
}

// TestEachInstalment tries all that there are of small loans: the least that leaves nothing counts, and all
// that are greater leave nothing, too.
func TestEachInstalment(t *testing.T) {
	r := rand.New(rand.NewSource(13))
	for range 1_500 {
		p, parts := small(r)
		amount := 1 + r.Int63n(60)
		least := int64(0)
		for by := range 2 * amount {
			v, _ := left(t, p, parts, amount, by)
			if least == 0 && v <= 0 {
				least = by
			}
			if least > 0 && v > 0 {
				t.Fatalf("P13.1: %+v, %v, %d: %d leaves nothing, but %d leaves %d", p, parts, amount, least, by, v)
			}
		}
		if v, e := of(t, p, parts, amount); least > 0 && v != least || e != api.OK {
			t.Fatalf("P13.1: Of(%+v, %v, %d): %d, error %d; want %d, 0", p, parts, amount, v, e, least)
		}
	}
}

// small is a product of a few instalments, and parts of at most a year for them.
func small(r *rand.Rand) (api.Product, []int64) {
	times := 1 + r.Intn(8)
	p := loan(1+r.Intn(3), []int{api.HalfUp, api.Down}[r.Intn(2)], times, r.Intn(times), r.Int63n(unit+1)>>r.Intn(6))
	parts := make([]int64, times)
	for i := range parts {
		parts[i] = r.Int63n(1+wholeOf(p.Count)/unit) >> r.Intn(6)
	}
	return p, parts
}

// size is a number from 0 to most, of any length.
func size(r *rand.Rand, most int64) int64 {
	switch r.Intn(12) {
	case 0:
		return most
	case 1:
		return 0
	}
	return r.Int63n(1+most) >> r.Intn(50)
}

// wild is a product of any number of instalments, with parts of all lengths, and an amount.
func wild(r *rand.Rand) (api.Product, []int64, int64) {
	times := 1 + r.Intn(600)>>r.Intn(10)
	grace := r.Intn(times)
	if r.Intn(2) == 0 {
		grace = 0
	}
	p := loan(1+r.Intn(3), []int{api.HalfUp, api.Down}[r.Intn(2)], times, grace, size(r, unit))
	parts, most := make([]int64, times), int64(mostParts)>>r.Intn(16)
	for i := range parts {
		parts[i] = r.Int63n(1 + most)
	}
	return p, parts, max(1, size(r, api.MaxLoan))
}

// steep is a product of a few instalments, each of which bears about as much as there may be.
func steep(r *rand.Rand) (api.Product, []int64, int64) {
	p, parts := small(r)
	p.Count, p.Rate = 1+r.Intn(2), unit-r.Int63n(unit/4)
	for i := range parts {
		parts[i] = mostParts >> r.Intn(11)
	}
	return p, parts, api.MaxLoan >> r.Intn(6)
}

// TestAnyLoans has loans of all kinds, with instalments about the least one that leaves nothing, and others.
func TestAnyLoans(t *testing.T) {
	r := rand.New(rand.NewSource(1_313))
	ends, met := map[end]int{}, map[api.Errno]int{}
	for range 4_000 {
		p, parts, amount := wild(r)
		if r.Intn(4) == 0 {
			p, parts, amount = steep(r)
		}
		switch r.Intn(30) {
		case 0:
			parts[r.Intn(len(parts))] = []int64{-1, mostParts + 1, math.MinInt64, math.MaxInt64}[r.Intn(4)]
		case 1:
			amount = []int64{0, -1, api.MaxLoan + 1, math.MinInt64, math.MaxInt64}[r.Intn(5)]
		case 2:
			parts = append(parts, 0)
		case 3:
			p.Grace = p.Times
		}
		v, e := of(t, p, parts, amount)
		met[e]++
		for _, by := range []int64{v, v - 1, v + 1, v / 2, v + v/2, 2 * v, size(r, top), top, 0, top + 1} {
			_, how := left(t, p, parts, amount, by)
			ends[how]++
		}
	}
	for _, e := range []api.Errno{api.OK, api.ErrArg, api.ErrProduct, api.ErrSteep} {
		if met[e] < 50 {
			t.Errorf("too few of the error %d: %v", e, met)
		}
	}
	for _, how := range []end{none, behind, early, late, over, refused, grace} {
		if ends[how] < 100 {
			t.Errorf("too few walks that went out so: %d: %v", how, ends)
		}
	}
}

// TestLongLoans has loans as they are: up to 600 months, of which the instalment pays back to the last unit.
func TestLongLoans(t *testing.T) {
	for _, times := range []int{1, 2, 12, 60, 360, 599, 600} {
		for _, rate := range []int64{0, 1, 10_000_000, 52_500_000, 199_999_999, unit} {
			for _, grace := range []int{0, times / 3, times - 1} {
				for _, count := range []int{api.Thirty, api.Fixed, api.Actual} {
					p := loan(count, api.HalfUp, times, grace, rate)
					parts := alike(times, wholeOf(count)/unit/12)
					for _, amount := range []int64{1, 100_000, 98_765_432_101, api.MaxLoan} {
						v, e := of(t, p, parts, amount)
						if e != api.OK {
							t.Errorf("P13.1: Of(%+v, .., %d): error %d; want 0", p, amount, e)
						}
						// Each of them is too great by less than 1: all of them by no more than they grow to.
						if rest, _ := left(t, p, parts, amount, v); rate == 0 && rest <= -int64(times-grace) {
							t.Errorf("P13.1: Of(%+v, .., %d): %d leaves %d", p, amount, v, rest)
						}
					}
				}
			}
		}
	}
}

// TestWhatPlaysNoPart: the walk knows of the rate, the Grace, and how is counted and rounded alone.
func TestWhatPlaysNoPart(t *testing.T) {
	plain := thirty(3, 1, unit/10)
	other := plain
	other.Name, other.Every, other.Kind, other.Penalty = "other-1", 12, api.Equal, unit
	other.Resets = []api.Reset{{After: 1, Rate: unit}, {After: 2, Rate: 0}}
	other.Order = [4]int{api.Principal, api.Interest, api.Penalty, api.Fees}
	other.Over, other.Late, other.Cap = api.Refund, []api.Tier{{Days: 1, Fee: 7}}, 9
	other.Roll, other.Holidays = api.Previous, []int{1, 2, 3}
	parts := []int64{31, 28, 400}
	for _, by := range []int64{0, 1, 5_000, 5_500, 100_000, top} {
		v, e := level.Left(plain, parts, 10_000, by)
		w, f := level.Left(other, parts, 10_000, by)
		if v != w || e != f || e != api.OK {
			t.Errorf("R8: Left by %d: %d, error %d; of the other product %d, %d", by, v, e, w, f)
		}
	}
	v, e := level.Of(plain, parts, 10_000)
	w, f := level.Of(other, parts, 10_000)
	if v != w || e != f || e != api.OK {
		t.Errorf("R8: Of: %d, error %d; of the other product %d, %d", v, e, w, f)
	}
	other = thirty(3, 0, unit/10)
	other.Kind = api.Bullet
	v, e = level.Of(thirty(3, 0, unit/10), parts, 10_000)
	if w, f = level.Of(other, parts, 10_000); v != w || e != f || e != api.OK {
		t.Errorf("R8: Of: %d, error %d; of a bullet %d, %d", v, e, w, f)
	}
}

// TestListsStayAsTheyAre: what is handed in is not changed, and what lies behind its end plays no part.
func TestListsStayAsTheyAre(t *testing.T) {
	room := []int64{30, 31, 28, -1, 1 << 40}
	resets := []api.Reset{{After: 1, Rate: 7}, {After: 2, Rate: 8}, {After: -9, Rate: -9}}
	tiers := []api.Tier{{Days: 3, Fee: 7}, {Days: -9, Fee: -9}}
	days := []int{5, 6, -99}
	p := thirty(3, 1, unit/10)
	p.Resets, p.Late, p.Holidays, p.Roll = resets[:2], tiers[:1], days[:2], api.Next
	first, _ := level.Of(p, room[:3], 10_000)
	rest, _ := level.Left(p, room[:3], 10_000, 5_000)
	for range 3 {
		v, e := level.Of(p, room[:3], 10_000)
		w, f := level.Left(p, room[:3], 10_000, 5_000)
		if v != first || e != api.OK || w != rest || f != api.OK {
			t.Errorf("R2: again: %d, error %d, and %d, error %d; want %d and %d", v, e, w, f, first, rest)
		}
		// What is asked between, and refused, plays no part.
		level.Of(p, room, 10_000)
		level.Left(p, room[:4], 10_000, 5_000)
		level.Of(thirty(1, 0, unit), alike(1, mostParts), api.MaxLoan)
	}
	if !slices.Equal(room, []int64{30, 31, 28, -1, 1 << 40}) || !slices.Equal(days, []int{5, 6, -99}) ||
		!slices.Equal(resets, []api.Reset{{After: 1, Rate: 7}, {After: 2, Rate: 8}, {After: -9, Rate: -9}}) ||
		!slices.Equal(tiers, []api.Tier{{Days: 3, Fee: 7}, {Days: -9, Fee: -9}}) {
		t.Errorf("R3: behind it the lists are %v, %v, %v, %v", room, resets, tiers, days)
	}
	if e := product.Check(p); e != api.OK {
		t.Errorf("R3: behind it the product may not be: error %d", e)
	}
}

// TestAtOnce has many ask at once, of lists that they share.
func TestAtOnce(t *testing.T) {
	const many = 16
	var group sync.WaitGroup
	var got, rest [many]int64
	p, parts := thirty(360, 12, 52_500_000), alike(360, 30)
	for i := range many {
		group.Go(func() {
			for k := range int64(8) {
				v, _ := level.Of(p, parts, 30_000_000-k)
				w, _ := level.Left(p, parts, 30_000_000-k, v)
				got[i], rest[i] = v, w
			}
		})
	}
	group.Wait()
	for i := range many {
		if got[i] != got[0] || rest[i] != rest[0] || got[i] == 0 {
			t.Errorf("R2: the asker %d: %d, which leaves %d; want %d, %d", i, got[i], rest[i], got[0], rest[0])
		}
	}
}
