package product_test

import (
	"cmp"
	"math"
	"regexp"
	"slices"
	"strings"
	"testing"

	"quittance/api"
	"quittance/business"
	"quittance/product"
)

// words are those of grammar, as chapter 9 lists them.
const words = "product, count, thirty, fixed, actual, round, half-up, down, kind, annuity, equal, bullet, every, times, grace, " +
	"rate, penalty, reset, late, cap, holiday, order, fees, interest, principal, over, hold, prepay, refund, roll, stay, next, " +
	"within, previous"

func wordList() []string { return strings.Split(words, ", ") }

var nameForm = regexp.MustCompile(`\A[a-z][a-z0-9\-]{0,19}\z`)

// wantedName is what Name is to answer of s.
func wantedName(s string) bool {
	return nameForm.MatchString(s) && !slices.Contains(wordList(), s)
}

// from tells whether v is from low to high.
func from(low, v, high int64) bool { return v >= low && v <= high }

// rising tells whether what get tells of the elements rises, from low to high.
func rising(n int, low, high int64, get func(i int) int64) bool {
	for i := range n {
		if !from(low, get(i), high) || i > 0 && get(i-1) >= get(i) {
			return false
		}
	}
	return true
}

// wanted is what Check is to answer of p: the words of P8.1, one by one.
func wanted(p api.Product) api.Errno {
	sorted := p.Order
	slices.Sort(sorted[:])
	_, errno := business.New(p.Holidays)
	may := []bool{
		wantedName(p.Name),
		slices.Contains([]int{api.Thirty, api.Fixed, api.Actual}, p.Count),
		slices.Contains([]int{api.HalfUp, api.Down}, p.Round),
		slices.Contains([]int{api.Annuity, api.Equal, api.Bullet}, p.Kind),
		slices.Contains([]int{1, 2, 3, 4, 6, 12}, p.Every),
		from(1, int64(p.Times), 600),
		p.Grace >= 0 && p.Grace < p.Times,
		p.Kind != api.Bullet || p.Grace == 0,
		from(0, p.Rate, 1_000_000_000),
		from(0, p.Penalty, 1_000_000_000),
		len(p.Resets) <= 20,
		p.Times > math.MinInt && rising(len(p.Resets), 1, int64(p.Times)-1, func(i int) int64 { return int64(p.Resets[i].After) }),
		!slices.ContainsFunc(p.Resets, func(r api.Reset) bool { return !from(0, r.Rate, 1_000_000_000) }),
		sorted == [4]int{api.Fees, api.Penalty, api.Interest, api.Principal},
		slices.Contains([]int{api.HoldIt, api.Prepay, api.Refund}, p.Over),
		len(p.Late) <= 8,
		rising(len(p.Late), 1, 365, func(i int) int64 { return int64(p.Late[i].Days) }),
		!slices.ContainsFunc(p.Late, func(l api.Tier) bool { return !from(0, l.Fee, 10_000_000_000_000) }),
		slices.IsSortedFunc(p.Late, func(a, b api.Tier) int { return cmp.Compare(a.Fee, b.Fee) }),
		from(0, p.Cap, 10_000_000_000_000),
		len(p.Late) > 0 || p.Cap == 0,
		slices.Contains([]int{api.Stay, api.Next, api.Within, api.Previous}, p.Roll),
		errno == api.OK,
		p.Roll != api.Stay || len(p.Holidays) == 0,
	}
	if slices.Contains(may, false) {
		return api.ErrProduct
	}
	return api.OK
}

// check holds Check of p against what is wanted.
func check(t *testing.T, p api.Product) {
	t.Helper()
	if e, want := product.Check(p), wanted(p); e != want {
		t.Errorf("P8.1: Check(%+v): error %d; want %d", p, e, want)
	}
}

// least is the product that has the least in it.
func least() api.Product {
	return api.Product{
		Name: "a", Count: api.Thirty, Round: api.HalfUp, Kind: api.Annuity, Every: 1, Times: 1,
		Order: [4]int{api.Fees, api.Penalty, api.Interest, api.Principal}, Over: api.HoldIt, Roll: api.Stay,
	}
}

// rich is a product with something of all kinds.
func rich() api.Product {
	return api.Product{
		Name: "home-5", Count: api.Actual, Round: api.Down, Kind: api.Equal, Every: 3, Times: 40, Grace: 4,
		Rate: 52_500_000, Penalty: 80_000_000, Resets: []api.Reset{{After: 4, Rate: 60_000_000}, {After: 20, Rate: 0}},
		Order: [4]int{api.Principal, api.Interest, api.Fees, api.Penalty}, Over: api.Prepay,
		Late: []api.Tier{{Days: 1, Fee: 0}, {Days: 10, Fee: 1500}, {Days: 30, Fee: 1500}}, Cap: 10_000,
		Roll: api.Within, Holidays: []int{-5, 0, 19_000},
	}
}

// full is a product with the most of all that may be.
func full() api.Product {
	p := api.Product{
		Name: "z234567890123456789-", Count: api.Fixed, Round: api.HalfUp, Kind: api.Annuity, Every: 12,
		Times: api.MaxTimes, Grace: api.MaxTimes - 1, Rate: api.Unit, Penalty: api.Unit,
		Order: [4]int{api.Penalty, api.Fees, api.Principal, api.Interest}, Over: api.Refund, Cap: api.MaxLoan, Roll: api.Previous,
	}
	for i := range api.MaxResets {
		p.Resets = append(p.Resets, api.Reset{After: api.MaxTimes - api.MaxResets + i, Rate: api.Unit})
	}
	for i := range api.MaxTiers {
		p.Late = append(p.Late, api.Tier{Days: 365 - api.MaxTiers + 1 + i, Fee: api.MaxLoan})
	}
	for i := range api.MaxHolidays {
		p.Holidays = append(p.Holidays, api.LastDay-api.MaxHolidays+1+i)
	}
	return p
}

// each calls f with what builds each of the products that may be, anew each time.
func each(f func(build func() api.Product)) {
	for _, build := range []func() api.Product{least, rich, full} {
		f(build)
	}
}

// turned is a product with something turned in it.
func turned(p api.Product, turn func(p *api.Product)) api.Product {
	turn(&p)
	return p
}

func TestCheckOfProductsThatMayBe(t *testing.T) {
	each(func(build func() api.Product) {
		if e := product.Check(build()); e != api.OK {
			t.Errorf("P8.1: Check(%+v): error %d; want 0", build(), e)
		}
		if e := wanted(build()); e != api.OK {
			t.Fatalf("what is wanted of %+v: error %d; want 0", build(), e)
		}
	})
	if e := product.Check(api.Product{}); e != api.ErrProduct {
		t.Errorf("P8.1: Check of a zero product: error %d; want 9", e)
	}
}

// TestCheckTurned: what one thing alone decides, written out.
func TestCheckTurned(t *testing.T) {
	for i, r := range []struct {
		turn func(p *api.Product)
		want api.Errno
	}{
		{func(p *api.Product) { p.Name = "" }, api.ErrProduct},
		{func(p *api.Product) { p.Name = "Home" }, api.ErrProduct},
		{func(p *api.Product) { p.Name = "order" }, api.ErrProduct},
		{func(p *api.Product) { p.Name = "orders" }, api.OK},
		{func(p *api.Product) { p.Name = strings.Repeat("a", 20) }, api.OK},
		{func(p *api.Product) { p.Name = strings.Repeat("a", 21) }, api.ErrProduct},
		{func(p *api.Product) { p.Count = api.Thirty }, api.OK},
		{func(p *api.Product) { p.Count = 0 }, api.ErrProduct},
		{func(p *api.Product) { p.Count = 4 }, api.ErrProduct},
		{func(p *api.Product) { p.Round = api.HalfUp }, api.OK},
		{func(p *api.Product) { p.Round = api.HalfEven }, api.ErrProduct},
		{func(p *api.Product) { p.Round = 0 }, api.ErrProduct},
		{func(p *api.Product) { p.Round = 4 }, api.ErrProduct},
		{func(p *api.Product) { p.Kind = api.Annuity }, api.OK},
		{func(p *api.Product) { p.Kind = 0 }, api.ErrProduct},
		{func(p *api.Product) { p.Kind = 4 }, api.ErrProduct},
		{func(p *api.Product) { p.Kind = api.Bullet }, api.ErrProduct}, // there is a grace
		{func(p *api.Product) { p.Kind, p.Grace = api.Bullet, 0 }, api.OK},
		{func(p *api.Product) { p.Every = 5 }, api.ErrProduct},
		{func(p *api.Product) { p.Every = -1 }, api.ErrProduct},
		{func(p *api.Product) { p.Every = 24 }, api.ErrProduct},
		{func(p *api.Product) { p.Times = 600 }, api.OK},
		{func(p *api.Product) { p.Times = 601 }, api.ErrProduct},
		{func(p *api.Product) { p.Times, p.Grace, p.Resets = 0, 0, nil }, api.ErrProduct},
		{func(p *api.Product) { p.Times = 21 }, api.OK},
		{func(p *api.Product) { p.Times = 20 }, api.ErrProduct}, // a reset behind 20
		{func(p *api.Product) { p.Times, p.Resets = 5, nil }, api.OK},
		{func(p *api.Product) { p.Times, p.Resets = 4, nil }, api.ErrProduct}, // a grace of 4
		{func(p *api.Product) { p.Grace = 39 }, api.OK},
		{func(p *api.Product) { p.Grace = 40 }, api.ErrProduct},
		{func(p *api.Product) { p.Grace = -1 }, api.ErrProduct},
		{func(p *api.Product) { p.Rate = api.Unit + 1 }, api.ErrProduct},
		{func(p *api.Product) { p.Penalty = -1 }, api.ErrProduct},
		{func(p *api.Product) { p.Resets[1].After = 4 }, api.ErrProduct},
		{func(p *api.Product) { p.Resets[1].After = 5 }, api.OK},
		{func(p *api.Product) { p.Resets[1].After = 3 }, api.ErrProduct},
		{func(p *api.Product) { p.Resets[1].Rate = api.Unit + 1 }, api.ErrProduct},
		{func(p *api.Product) { p.Resets[0].After = 0 }, api.ErrProduct},
		{func(p *api.Product) { p.Order = [4]int{1, 2, 3, 1} }, api.ErrProduct},
		{func(p *api.Product) { p.Order = [4]int{} }, api.ErrProduct},
		{func(p *api.Product) { p.Over = 0 }, api.ErrProduct},
		{func(p *api.Product) { p.Over = 4 }, api.ErrProduct},
		{func(p *api.Product) { p.Late[2].Fee = 1499 }, api.ErrProduct},
		{func(p *api.Product) { p.Late[2].Days = 10 }, api.ErrProduct},
		{func(p *api.Product) { p.Late[2].Days = 11 }, api.OK},
		{func(p *api.Product) { p.Late[2].Days = 365 }, api.OK},
		{func(p *api.Product) { p.Late[2].Days = 366 }, api.ErrProduct},
		{func(p *api.Product) { p.Late[0].Days = 0 }, api.ErrProduct},
		{func(p *api.Product) { p.Late[0].Fee = -1 }, api.ErrProduct},
		{func(p *api.Product) { p.Late[2].Fee = api.MaxLoan }, api.OK},
		{func(p *api.Product) { p.Late[2].Fee = api.MaxLoan + 1 }, api.ErrProduct},
		{func(p *api.Product) { p.Cap = 0 }, api.OK},
		{func(p *api.Product) { p.Cap = -1 }, api.ErrProduct},
		{func(p *api.Product) { p.Cap = api.MaxLoan }, api.OK},
		{func(p *api.Product) { p.Cap = api.MaxLoan + 1 }, api.ErrProduct},
		{func(p *api.Product) { p.Late = nil }, api.ErrProduct}, // there is a cap
		{func(p *api.Product) { p.Late, p.Cap = []api.Tier{}, 1 }, api.ErrProduct},
		{func(p *api.Product) { p.Late, p.Cap = []api.Tier{}, 0 }, api.OK},
		{func(p *api.Product) { p.Roll = 0 }, api.ErrProduct},
		{func(p *api.Product) { p.Roll = 5 }, api.ErrProduct},
		{func(p *api.Product) { p.Roll = api.Stay }, api.ErrProduct}, // there are holidays
		{func(p *api.Product) { p.Roll, p.Holidays = api.Stay, nil }, api.OK},
		{func(p *api.Product) { p.Roll, p.Holidays = api.Stay, []int{} }, api.OK},
		{func(p *api.Product) { p.Holidays = nil }, api.OK},
		{func(p *api.Product) { p.Holidays[1] = -5 }, api.ErrProduct},
		{func(p *api.Product) { p.Holidays[0] = api.FirstDay }, api.OK},
		{func(p *api.Product) { p.Holidays[0] = api.FirstDay - 1 }, api.ErrProduct},
		{func(p *api.Product) { p.Holidays[2] = api.LastDay + 1 }, api.ErrProduct},
	} {
		p := turned(rich(), r.turn)
		if e := product.Check(p); e != r.want {
			t.Errorf("P8.1: Check of the row %d: error %d; want %d", i, e, r.want)
		}
		check(t, p)
	}
}

// numbers are those from -3 to 700, and what lies at the ends of all numbers.
func numbers() []int {
	l := []int{math.MinInt, math.MinInt + 1, math.MinInt32, math.MaxInt32, 1 << 32, 1<<32 + 1, 1 << 62, math.MaxInt - 1, math.MaxInt}
	for n := -3; n <= 700; n++ {
		l = append(l, n)
	}
	return l
}

// amounts are what lies around the bounds of rates and money, and at the ends of all numbers.
func amounts() []int64 {
	l := []int64{math.MinInt64, math.MaxInt64, -1 << 62, 1 << 62, 1 << 32}
	for _, v := range []int64{0, 1500, 10_000, api.Unit, api.MaxLoan, api.MaxMoney} {
		l = append(l, v-1, v, v+1, -v, -v-1)
	}
	return l
}

func TestCheckOfEachNumber(t *testing.T) {
	each(func(build func() api.Product) {
		for _, n := range numbers() {
			for _, turn := range []func(p *api.Product){
				func(p *api.Product) { p.Count = n }, func(p *api.Product) { p.Round = n }, func(p *api.Product) { p.Kind = n },
				func(p *api.Product) { p.Every = n }, func(p *api.Product) { p.Times = n }, func(p *api.Product) { p.Grace = n },
				func(p *api.Product) { p.Over = n }, func(p *api.Product) { p.Roll = n },
				func(p *api.Product) { p.Times, p.Grace = n, n }, func(p *api.Product) { p.Times, p.Resets = n, nil },
				func(p *api.Product) { p.Times, p.Grace, p.Resets = n, 0, nil },
				func(p *api.Product) { p.Order[0] = n }, func(p *api.Product) { p.Order[3] = n },
				func(p *api.Product) { p.Resets = []api.Reset{{After: n}} },
				func(p *api.Product) { p.Resets = []api.Reset{{After: 7}, {After: n, Rate: 7}} },
				func(p *api.Product) { p.Resets = []api.Reset{{After: n, Rate: 7}, {After: 9}} },
				func(p *api.Product) { p.Late = []api.Tier{{Days: n}} },
				func(p *api.Product) { p.Late = []api.Tier{{Days: 7}, {Days: n, Fee: 7}} },
				func(p *api.Product) { p.Late = []api.Tier{{Days: n, Fee: 7}, {Days: 9, Fee: 7}} },
				func(p *api.Product) { p.Holidays = []int{n} },
				func(p *api.Product) { p.Holidays = []int{7, n} },
			} {
				check(t, turned(build(), turn))
			}
		}
	})
}

func TestCheckOfEachAmount(t *testing.T) {
	each(func(build func() api.Product) {
		for _, v := range amounts() {
			for _, turn := range []func(p *api.Product){
				func(p *api.Product) { p.Rate = v }, func(p *api.Product) { p.Penalty = v }, func(p *api.Product) { p.Cap = v },
				func(p *api.Product) { p.Cap, p.Late = v, nil }, func(p *api.Product) { p.Cap, p.Late = v, []api.Tier{{Days: 1}} },
				func(p *api.Product) { p.Times, p.Resets = 600, []api.Reset{{After: 1, Rate: v}} },
				func(p *api.Product) { p.Times, p.Resets = 600, []api.Reset{{After: 1, Rate: 7}, {After: 2, Rate: v}} },
				func(p *api.Product) { p.Late = []api.Tier{{Days: 1, Fee: v}} },
				func(p *api.Product) { p.Late = []api.Tier{{Days: 1, Fee: 1500}, {Days: 2, Fee: v}} },
				func(p *api.Product) {
					p.Late = []api.Tier{{Days: 1, Fee: v}, {Days: 2, Fee: 1500}, {Days: 3, Fee: 1500}}
				},
				func(p *api.Product) { p.Late = []api.Tier{{Days: 1, Fee: v}, {Days: 2, Fee: v}} },
			} {
				check(t, turned(build(), turn))
			}
		}
	})
}

// TestCheckOfChoices: all that hang on each other, in each way to choose them.
func TestCheckOfChoices(t *testing.T) {
	p := least()
	for kind := range 5 {
		for times := -1; times <= 4; times++ {
			for grace := -2; grace <= 5; grace++ {
				for after := -1; after <= 5; after++ {
					p.Kind, p.Times, p.Grace, p.Resets = kind, times, grace, []api.Reset{{After: after}}
					check(t, p)
				}
			}
		}
	}
	p = least()
	for roll := range 6 {
		for _, days := range [][]int{nil, {}, {0}, {0, 1}, {1, 0}, {0, 0}} {
			p.Roll, p.Holidays = roll, days
			check(t, p)
		}
	}
}

func TestCheckOfEachOrder(t *testing.T) {
	p, may := least(), 0
	for i := range 6 * 6 * 6 * 6 {
		p.Order = [4]int{i % 6, i / 6 % 6, i / 36 % 6, i / 216}
		check(t, p)
		if product.Check(p) == api.OK {
			may++
		}
	}
	if may != 24 {
		t.Errorf("P8.1: there are %d orders that may be; want 24", may)
	}
}

func TestCheckOfLongLists(t *testing.T) {
	for _, n := range []int{0, 1, 7, 8, 9, 19, 20, 21, 199, 200, 201, 599, 100_000} {
		p := full()
		p.Resets = make([]api.Reset, n)
		for i := range p.Resets {
			p.Resets[i].After = i + 1
		}
		if e, want := product.Check(p), wanted(p); e != want || (e == api.OK) != (n <= api.MaxResets) {
			t.Errorf("P8.1: Check with %d resets: error %d; want %d", n, e, want)
		}
		p = full()
		p.Cap, p.Late = 0, make([]api.Tier, n)
		for i := range p.Late {
			p.Late[i].Days = i + 1
		}
		if e, want := product.Check(p), wanted(p); e != want || (e == api.OK) != (n <= api.MaxTiers) {
			t.Errorf("P8.1: Check with %d tiers: error %d; want %d", n, e, want)
		}
		p = full()
		p.Holidays = make([]int, n)
		for i := range p.Holidays {
			p.Holidays[i] = i - n/2
		}
		if e, want := product.Check(p), wanted(p); e != want || (e == api.OK) != (n <= api.MaxHolidays) {
			t.Errorf("P8.1: Check with %d holidays: error %d; want %d", n, e, want)
		}
	}
}

// TestCheckOfEachPlaceInLists: what may not be is found in whatever place it is.
func TestCheckOfEachPlaceInLists(t *testing.T) {
	refused := func(what string, i int, turn func(p *api.Product)) {
		if e := product.Check(turned(full(), turn)); e != api.ErrProduct {
			t.Errorf("P8.1: Check with a fault of %s %d: error %d; want 9", what, i, e)
		}
	}
	for i := range api.MaxResets {
		refused("the rate of the reset", i, func(p *api.Product) { p.Resets[i].Rate++ })
		refused("the rate of the reset", i, func(p *api.Product) { p.Resets[i].Rate = -1 })
		refused("the reset", i, func(p *api.Product) { p.Resets[i].After++ })
		refused("the reset", i, func(p *api.Product) { p.Resets[i].After = 0 })
	}
	for i := range api.MaxTiers {
		refused("the fee of the tier", i, func(p *api.Product) { p.Late[i].Fee++ })
		refused("the fee of the tier", i, func(p *api.Product) { p.Late[i].Fee = -1 })
		refused("the tier", i, func(p *api.Product) { p.Late[i].Days++ })
		refused("the tier", i, func(p *api.Product) { p.Late[i].Days = 0 })
		if i > 0 {
			refused("the fee of the tier", i, func(p *api.Product) { p.Late[i].Fee-- })
		}
	}
	for i := range api.MaxHolidays {
		refused("the holiday", i, func(p *api.Product) { p.Holidays[i]++ })
		refused("the holiday", i, func(p *api.Product) { p.Holidays[i] = api.FirstDay - 1 })
	}
}

func TestCheckChangesNothing(t *testing.T) {
	resets := []api.Reset{{After: 1}, {After: 2}, {After: 2, Rate: -1}, {After: 9}}
	tiers := []api.Tier{{Days: 1}, {Days: 2}, {Days: 2, Fee: -1}, {Days: 9}}
	days := []int{1, 2, 2, 9}
	p := rich()
	// What lies behind a list's end plays no part in it.
	p.Resets, p.Late, p.Holidays = resets[:2], tiers[:2], days[:2]
	for range 2 {
		if e := product.Check(p); e != api.OK {
			t.Errorf("R2, R3: Check of lists with room behind: error %d; want 0", e)
		}
	}
	p.Resets, p.Late, p.Holidays = resets, tiers, days
	for range 2 {
		if e := product.Check(p); e != api.ErrProduct {
			t.Errorf("R2, R3: Check of the whole lists: error %d; want 9", e)
		}
	}
	if !slices.Equal(resets, []api.Reset{{After: 1}, {After: 2}, {After: 2, Rate: -1}, {After: 9}}) ||
		!slices.Equal(tiers, []api.Tier{{Days: 1}, {Days: 2}, {Days: 2, Fee: -1}, {Days: 9}}) ||
		!slices.Equal(days, []int{1, 2, 2, 9}) {
		t.Errorf("R3: behind Check the lists are %v, %v, %v", resets, tiers, days)
	}
}

// name holds Name of s, and Check of a product that is called so, against what is wanted.
func name(t *testing.T, s string, want bool) {
	t.Helper()
	if got := product.Name(s); got != want {
		t.Errorf("P8.1: Name(%q): %t; want %t", s, got, want)
	}
	p := rich()
	p.Name = s
	if e := product.Check(p); (e == api.OK) != want || e != api.OK && e != api.ErrProduct {
		t.Errorf("P8.1: Check of a product called %q: error %d; want it to be there: %t", s, e, !want)
	}
}

func TestName(t *testing.T) {
	for _, s := range []string{"a", "z", "m", "home", "a-b-9", "a-", "a--", "a0", "z9", "half", "up", "halfup", "half-", "half-upp", "product1", "hold-it", strings.Repeat("z", 19), strings.Repeat("z", 20), "a" + strings.Repeat("-", 19), "a" + strings.Repeat("0", 19)} {
		name(t, s, true)
	}
	for _, s := range []string{"", "A", "Z", "0", "9", "-", "9a", "-a", "Home", "homE", "a_b", "a b", " a", "a ", "a\n", "a\x00", "a.", "a/", "a:", "a{", "a;", "`", "{", "\u00e9", "a\u00e9", "a\xff", "\xff", "\u0430", strings.Repeat("z", 21), strings.Repeat("z", 1<<20), strings.Repeat("-", 20), strings.Repeat("\u00e9", 10)} {
		name(t, s, false)
	}
}

func TestNameOfTheWordsOfGrammar(t *testing.T) {
	if n := len(wordList()); n != 34 {
		t.Fatalf("the words are %d; want 34", n)
	}
	for _, w := range wordList() {
		name(t, w, false)
		// What is near to one is none, but where it is another one (hold, order, rate ..).
		for _, s := range []string{w + "s", w + "-", w + "0", "x" + w, w[1:], w[:len(w)-1], strings.ReplaceAll(w, "-", ""), w + w[:1]} {
			name(t, s, wantedName(s))
		}
		name(t, strings.ToUpper(w), false)
		name(t, w+" ", false)
		name(t, " "+w, false)
	}
	// Words that the program speaks of elsewhere are none of grammar.
	for _, s := range []string{"fee", "holdit", "halfeven", "half-even", "principals", "holidays", "resets", "tier", "penalties", "name", "loan"} {
		name(t, s, true)
	}
}

func TestNameOfEveryByte(t *testing.T) {
	for c := range 256 {
		b := string([]byte{byte(c)})
		for _, s := range []string{b, b + b, "x" + b, b + "x", "x" + b + "x", "5" + b, strings.Repeat("x", 19) + b, strings.Repeat("x", 20) + b, b + strings.Repeat("x", 19)} {
			name(t, s, wantedName(s))
		}
		for d := range 256 {
			s := b + string([]byte{byte(d)})
			if got := product.Name(s); got != wantedName(s) {
				t.Errorf("P8.1: Name(%q): %t; want %t", s, got, !got)
			}
		}
	}
}
