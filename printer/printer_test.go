package printer_test

import (
	"math"
	"math/rand/v2"
	"slices"
	"strings"
	"testing"

	"quittance/api"
	"quittance/grammar"
	"quittance/printer"
	"quittance/product"
)

// least is a product of which nothing is told that need not be.
func least() api.Product {
	return api.Product{
		Name: "a", Count: api.Fixed, Round: api.Down, Kind: api.Equal, Every: 6, Times: 40, Rate: 52_500_000,
		Order: [4]int{api.Interest, api.Fees, api.Principal, api.Penalty}, Over: api.HoldIt, Roll: api.Stay,
	}
}

// leastText is that of least.
const leastText = `product a {
  count fixed;
  round down;
  kind equal;
  every 6;
  times 40;
  grace 0;
  rate 5.25%;
  penalty 0%;
  order interest fees principal penalty;
  over hold;
  cap 0.00;
  roll stay;
}
`

// rich is a product with something of all kinds.
func rich() api.Product {
	return api.Product{
		Name: "home-5", Count: api.Actual, Round: api.HalfUp, Kind: api.Annuity, Every: 12, Times: 30, Grace: 29,
		Rate: 1, Resets: []api.Reset{{After: 4, Rate: 60_000_000}, {After: 20, Rate: 0}, {After: 29, Rate: api.Unit}},
		Penalty: 999_999_999, Order: [4]int{api.Principal, api.Interest, api.Fees, api.Penalty}, Over: api.Prepay,
		Late: []api.Tier{{Days: 1, Fee: 0}, {Days: 10, Fee: 1505}, {Days: 365, Fee: api.MaxLoan}}, Cap: 10,
		Roll: api.Within, Holidays: []int{api.FirstDay, -1, 0, 19_782, api.LastDay},
	}
}

// richText is that of rich.
const richText = `product home-5 {
  count actual;
  round half-up;
  kind annuity;
  every 12;
  times 30;
  grace 29;
  rate 0.0000001%;
  penalty 99.9999999%;
  reset 4 6%;
  reset 20 0%;
  reset 29 100%;
  order principal interest fees penalty;
  over prepay;
  late 1 0.00;
  late 10 15.05;
  late 365 100000000000.00;
  cap 0.10;
  roll within;
  holiday 1900-01-01;
  holiday 1969-12-31;
  holiday 1970-01-01;
  holiday 2024-02-29;
  holiday 2200-12-31;
}
`

// full is a product with the most of all that may be, each with as long a text as there is.
func full() api.Product {
	p := api.Product{
		Name: "z234567890123456789-", Count: api.Thirty, Round: api.HalfUp, Kind: api.Annuity, Every: 12,
		Times: api.MaxTimes, Grace: api.MaxTimes - 1, Rate: api.Unit - 1, Penalty: api.Unit - 1,
		Order: [4]int{api.Penalty, api.Fees, api.Principal, api.Interest}, Over: api.Refund, Cap: api.MaxLoan, Roll: api.Previous,
	}
	for i := range api.MaxResets {
		p.Resets = append(p.Resets, api.Reset{After: api.MaxTimes - api.MaxResets + i, Rate: api.Unit - 1})
	}
	for i := range api.MaxTiers {
		p.Late = append(p.Late, api.Tier{Days: 365 - api.MaxTiers + 1 + i, Fee: api.MaxLoan})
	}
	for i := range api.MaxHolidays {
		p.Holidays = append(p.Holidays, api.LastDay-api.MaxHolidays+1+i)
	}
	return p
}

// turned is a product with something turned in it.
func turned(p api.Product, turn func(p *api.Product)) api.Product {
	turn(&p)
	return p
}

func TestPrint(t *testing.T) {
	answers(t, least(), leastText, api.OK)
	answers(t, rich(), richText, api.OK)
	for _, p := range []api.Product{least(), rich(), full()} {
		check(t, p)
	}
	home := turned(least(), func(p *api.Product) { p.Name = "home" })
	if s, _ := printer.Print(home); !strings.HasPrefix(s, "product home {\n") {
		t.Errorf("P10.1: Print of a product called home: %q", s)
	}
}

// TestPrintOfEachClause: what each thing alone changes, written out.
func TestPrintOfEachClause(t *testing.T) {
	for _, r := range []struct {
		from, to string
		turn     func(p *api.Product)
	}{
		{"product a {", "product z-9 {", func(p *api.Product) { p.Name = "z-9" }},
		{"count fixed", "count thirty", func(p *api.Product) { p.Count = api.Thirty }},
		{"count fixed", "count actual", func(p *api.Product) { p.Count = api.Actual }},
		{"round down", "round half-up", func(p *api.Product) { p.Round = api.HalfUp }},
		{"kind equal", "kind annuity", func(p *api.Product) { p.Kind = api.Annuity }},
		{"kind equal", "kind bullet", func(p *api.Product) { p.Kind = api.Bullet }},
		{"every 6", "every 1", func(p *api.Product) { p.Every = 1 }},
		{"every 6", "every 12", func(p *api.Product) { p.Every = 12 }},
		{"times 40", "times 1", func(p *api.Product) { p.Times = 1 }},
		{"times 40", "times 600", func(p *api.Product) { p.Times = 600 }},
		{"grace 0", "grace 39", func(p *api.Product) { p.Grace = 39 }},
		{"rate 5.25%", "rate 0%", func(p *api.Product) { p.Rate = 0 }},
		{"rate 5.25%", "rate 0.5%", func(p *api.Product) { p.Rate = 5_000_000 }},
		{"rate 5.25%", "rate 100%", func(p *api.Product) { p.Rate = api.Unit }},
		{"penalty 0%", "penalty 0.0000001%", func(p *api.Product) { p.Penalty = 1 }},
		{"penalty 0%", "penalty 12.3456789%", func(p *api.Product) { p.Penalty = 123_456_789 }},
		{"penalty 0%", "penalty 10%", func(p *api.Product) { p.Penalty = 100_000_000 }},
		{"  order", "  reset 1 0%;\n  order", func(p *api.Product) { p.Resets = []api.Reset{{After: 1}} }},
		{"  order", "  reset 9 7%;\n  reset 10 6%;\n  order", func(p *api.Product) {
			p.Resets = []api.Reset{{After: 9, Rate: 70_000_000}, {After: 10, Rate: 60_000_000}}
		}},
		{"order interest fees principal penalty", "order fees penalty interest principal", func(p *api.Product) { p.Order = [4]int{1, 2, 3, 4} }},
		{"over hold", "over prepay", func(p *api.Product) { p.Over = api.Prepay }},
		{"over hold", "over refund", func(p *api.Product) { p.Over = api.Refund }},
		{"  cap 0.00", "  late 9 0.05;\n  cap 0.00", func(p *api.Product) { p.Late = []api.Tier{{Days: 9, Fee: 5}} }},
		{"  cap 0.00", "  late 9 0.00;\n  late 10 0.00;\n  cap 7.05", func(p *api.Product) { p.Late, p.Cap = []api.Tier{{Days: 9}, {Days: 10}}, 705 }},
		{"roll stay", "roll next", func(p *api.Product) { p.Roll = api.Next }},
		{"roll stay", "roll within", func(p *api.Product) { p.Roll = api.Within }},
		{"roll stay", "roll previous", func(p *api.Product) { p.Roll = api.Previous }},
		{"roll stay;\n", "roll next;\n  holiday 2024-01-01;\n  holiday 2024-12-25;\n", func(p *api.Product) {
			p.Roll, p.Holidays = api.Next, []int{19_723, 20_082}
		}},
		{"", "", func(p *api.Product) { p.Resets, p.Late, p.Holidays = []api.Reset{}, []api.Tier{}, []int{} }},
	} {
		p := turned(least(), r.turn)
		answers(t, p, strings.Replace(leastText, r.from, r.to, 1), api.OK)
		check(t, p)
	}
}

func TestPrintOfEachChoice(t *testing.T) {
	p := rich()
	p.Grace, p.Holidays = 0, nil
	for i := range 3 * 2 * 3 * 6 * 3 * 4 {
		p.Count, p.Round, p.Kind = 1+i%3, api.HalfUp+i/3%2*(api.Down-api.HalfUp), 1+i/6%3
		p.Every, p.Over, p.Roll = []int{1, 2, 3, 4, 6, 12}[i/18%6], 1+i/108%3, 1+i/324
		check(t, p)
		if e := product.Check(p); e != api.OK {
			t.Errorf("the choice %d may not be: %+v", i, p)
		}
	}
}

func TestPrintOfEachOrder(t *testing.T) {
	p, texts := rich(), map[string]int{}
	for i := range 6 * 6 * 6 * 6 {
		p.Order = [4]int{i % 6, i / 6 % 6, i / 36 % 6, i / 216}
		check(t, p)
		if s, e := printer.Print(p); e == api.OK {
			texts[s]++
		}
	}
	if len(texts) != 24 {
		t.Errorf("P10.1: the orders have %d texts; want 24", len(texts))
	}
}

// numbers are those from -3 to 700, and what lies at the ends of all numbers.
func numbers() []int {
	l := []int{math.MinInt, math.MinInt32, math.MaxInt32, 1 << 32, 1<<32 + 1, 1 << 62, math.MaxInt}
	for n := -3; n <= 700; n++ {
		l = append(l, n)
	}
	return l
}

// amounts are what lies around the bounds of rates and money, and some of each size.
func amounts() []int64 {
	l := []int64{math.MinInt64, math.MaxInt64, -1 << 62, 1 << 32, 123_456_789, 1_234_567_891_234, 909_090_909, 52_500_000}
	for v := int64(1); v <= api.MaxMoney; v *= 10 {
		l = append(l, v-1, v, v+1, -v, 2*v, 5*v, 9*v)
	}
	return l
}

// TestPrintOfEachNumber: each number in each field, also those that may not be.
func TestPrintOfEachNumber(t *testing.T) {
	for _, n := range numbers() {
		for _, turn := range []func(p *api.Product){
			func(p *api.Product) { p.Count = n }, func(p *api.Product) { p.Round = n }, func(p *api.Product) { p.Kind = n },
			func(p *api.Product) { p.Kind, p.Grace = n, 0 }, func(p *api.Product) { p.Every = n },
			func(p *api.Product) { p.Times = n }, func(p *api.Product) { p.Times, p.Grace, p.Resets = n, 0, nil },
			func(p *api.Product) { p.Grace = n }, func(p *api.Product) { p.Times, p.Grace = 600, n },
			func(p *api.Product) { p.Over = n }, func(p *api.Product) { p.Roll = n },
			func(p *api.Product) { p.Roll, p.Holidays = n, nil }, func(p *api.Product) { p.Order[1] = n },
			func(p *api.Product) { p.Times, p.Resets = 600, []api.Reset{{After: n, Rate: 7}} },
			func(p *api.Product) { p.Times, p.Resets = 600, []api.Reset{{After: n}, {After: 300}} },
			func(p *api.Product) { p.Late = []api.Tier{{Days: n, Fee: 7}} },
			func(p *api.Product) { p.Late = []api.Tier{{Days: 300}, {Days: n, Fee: 7}} },
			func(p *api.Product) { p.Holidays = []int{n} }, func(p *api.Product) { p.Holidays = []int{0, n} },
		} {
			check(t, turned(rich(), turn))
		}
	}
}

func TestPrintOfEachAmount(t *testing.T) {
	for _, v := range amounts() {
		for _, turn := range []func(p *api.Product){
			func(p *api.Product) { p.Rate = v }, func(p *api.Product) { p.Penalty = v },
			func(p *api.Product) { p.Resets = []api.Reset{{After: 1, Rate: v}, {After: 2, Rate: v}} },
			func(p *api.Product) { p.Late = []api.Tier{{Days: 1, Fee: v}, {Days: 2, Fee: v}} },
			func(p *api.Product) { p.Cap = v }, func(p *api.Product) { p.Cap, p.Late = v, nil },
		} {
			check(t, turned(rich(), turn))
		}
	}
}

// TestPrintOfEachDay: all days that may be holidays, as many at once as may be.
func TestPrintOfEachDay(t *testing.T) {
	p := rich()
	for first := api.FirstDay; first <= api.LastDay; first += api.MaxHolidays {
		p.Holidays = nil
		for day := first; day < first+api.MaxHolidays && day <= api.LastDay; day++ {
			p.Holidays = append(p.Holidays, day)
		}
		check(t, p)
		if s, _ := printer.Print(p); strings.Count(s, "  holiday ") != len(p.Holidays) {
			t.Errorf("P10.1: Print of holidays from %d on: %q", first, s)
		}
	}
}

func TestPrintOfListsOfEachLength(t *testing.T) {
	for n := range api.MaxHolidays + 3 {
		for _, turn := range []func(p *api.Product){
			func(p *api.Product) { p.Holidays = p.Holidays[:min(n, len(p.Holidays))] },
			func(p *api.Product) { p.Resets = p.Resets[:min(n, len(p.Resets))] },
			func(p *api.Product) { p.Late = p.Late[:min(n, len(p.Late))] },
			func(p *api.Product) { p.Cap, p.Late = 0, p.Late[:min(n, len(p.Late))] },
			func(p *api.Product) {
				p.Holidays = nil
				for day := range n {
					p.Holidays = append(p.Holidays, day)
				}
			},
		} {
			check(t, turned(full(), turn))
		}
	}
}

// TestLongestText: the limits of a product's lists keep its text below MaxText.
func TestLongestText(t *testing.T) {
	s, e := printer.Print(full())
	if e != api.OK || len(s) > api.MaxText {
		t.Errorf("P10.1: Print of the fullest product: %d bytes, error %d", len(s), e)
	}
	// 22 bytes for each holiday, 25 for each reset, 28 for each tier, and the other clauses.
	if lists := 200*22 + 20*25 + 8*28; len(s) < lists || len(s) > lists+400 {
		t.Errorf("P10.1: Print of the fullest product: %d bytes, of which %d are those of its lists", len(s), lists)
	}
}

func TestPrintOfProductsThatMayNotBe(t *testing.T) {
	for _, turn := range []func(p *api.Product){
		func(p *api.Product) { *p = api.Product{} }, func(p *api.Product) { *p = api.Product{Name: "home"} },
		func(p *api.Product) { p.Name = "" }, func(p *api.Product) { p.Name = "Home" }, func(p *api.Product) { p.Name = "order" },
		func(p *api.Product) { p.Name = "a {" }, func(p *api.Product) { p.Name = "a\n" }, func(p *api.Product) { p.Name = " a" },
		func(p *api.Product) { p.Name = strings.Repeat("a", 21) }, func(p *api.Product) { p.Name = strings.Repeat("a", 1<<20) },
		func(p *api.Product) { p.Count = 0 }, func(p *api.Product) { p.Round = api.HalfEven }, func(p *api.Product) { p.Kind = 4 },
		func(p *api.Product) { p.Kind = api.Bullet }, func(p *api.Product) { p.Every = 5 }, func(p *api.Product) { p.Times = 0 },
		func(p *api.Product) { p.Times = 601 }, func(p *api.Product) { p.Grace = 30 }, func(p *api.Product) { p.Rate = -1 },
		func(p *api.Product) { p.Penalty = api.Unit + 1 }, func(p *api.Product) { p.Resets[1].After = 4 },
		func(p *api.Product) { p.Resets[2].After = 30 }, func(p *api.Product) { p.Resets = make([]api.Reset, 21) },
		func(p *api.Product) { p.Order[0] = 0 }, func(p *api.Product) { p.Order[0] = api.Fees }, func(p *api.Product) { p.Order[3] = 5 },
		func(p *api.Product) { p.Over = 0 }, func(p *api.Product) { p.Late[0].Fee = 1506 }, func(p *api.Product) { p.Late = nil },
		func(p *api.Product) { p.Late[2].Days = 366 }, func(p *api.Product) { p.Cap = -1 }, func(p *api.Product) { p.Cap = api.MaxLoan + 1 },
		func(p *api.Product) { p.Roll = 0 }, func(p *api.Product) { p.Roll = 5 }, func(p *api.Product) { p.Roll = api.Stay },
		func(p *api.Product) { p.Holidays[0]-- }, func(p *api.Product) { p.Holidays[4]++ }, func(p *api.Product) { p.Holidays[2] = -1 },
		// A text would be too long as well: what Check refuses with is told first.
		func(p *api.Product) { p.Holidays = make([]int, 2000) },
	} {
		p := turned(rich(), turn)
		answers(t, p, "", api.ErrProduct)
		check(t, p)
	}
}

// TestWhatIsParsed: however a text is written, what it is printed as is the same product's, and is printed as itself.
func TestWhatIsParsed(t *testing.T) {
	for _, r := range []struct{ written, printed string }{
		{leastText, leastText},
		{richText, richText},
		{"product a{count fixed;round down;kind equal;every 6;times 40;rate 5.25%;order interest fees principal penalty;}", leastText},
		{"# a loan\n\nproduct a {{order interest fees principal penalty; rate 5.25%;} roll stay; times 40; # months\n" +
			"over hold; {{ every 6; cap 0.00; }} kind equal; grace 0;\tround down; penalty 0%; count fixed;} # so be it", leastText},
	} {
		p, _, e := grammar.Parse(r.written)
		if e != api.OK {
			t.Fatalf("Parse(%q): error %d", r.written, e)
		}
		answers(t, p, r.printed, api.OK)
		check(t, p)
	}
}

// anyProduct is some product that may be.
func anyProduct(r *rand.Rand) api.Product {
	p := api.Product{
		Name: []string{"a", "home", "loan-9", "x--", "abcdefghijklmnopqrst"}[r.IntN(5)], Count: 1 + r.IntN(3), Round: 1 + 2*r.IntN(2),
		Kind: 1 + r.IntN(3), Every: []int{1, 2, 3, 4, 6, 12}[r.IntN(6)], Times: 1 + r.IntN(600),
		Rate: r.Int64N(api.Unit + 1), Penalty: r.Int64N(1000) * 1_000_000, Over: 1 + r.IntN(3), Roll: 1 + r.IntN(4),
	}
	for i, k := range r.Perm(4) {
		p.Order[i] = k + 1
	}
	if p.Kind != api.Bullet {
		p.Grace = r.IntN(p.Times)
	}
	for after := 1 + r.IntN(60); after < p.Times && len(p.Resets) < api.MaxResets; after += 1 + r.IntN(60) {
		p.Resets = append(p.Resets, api.Reset{After: after, Rate: r.Int64N(10_001) * 100_000})
	}
	fee := int64(0)
	for days := 1 + r.IntN(200); days <= 365 && len(p.Late) < api.MaxTiers; days += 1 + r.IntN(200) {
		fee += r.Int64N(api.MaxLoan / 10)
		p.Late = append(p.Late, api.Tier{Days: days, Fee: fee})
		p.Cap = r.Int64N(api.MaxLoan + 1)
	}
	if p.Roll != api.Stay {
		for day := api.FirstDay + r.IntN(9000); day <= api.LastDay && len(p.Holidays) < api.MaxHolidays; day += 1 + r.IntN(9000) {
			p.Holidays = append(p.Holidays, day)
		}
	}
	return p
}

// TestManyProducts: also that what was printed ahead plays no part.
func TestManyProducts(t *testing.T) {
	r, ahead := rand.New(rand.NewPCG(10, 1)), least()
	for range 5_000 {
		p := anyProduct(r)
		if e := product.Check(p); e != api.OK {
			t.Fatalf("%+v may not be", p)
		}
		check(t, p)
		check(t, ahead)
		ahead = p
	}
}

func TestPrintChangesNothing(t *testing.T) {
	resets := []api.Reset{{After: 1}, {After: 2}, {After: 2, Rate: -1}}
	tiers := []api.Tier{{Days: 1}, {Days: 2}, {Days: 2, Fee: -1}}
	days := []int{1, 2, 2}
	p := rich()
	// What lies behind a list's end plays no part in it.
	p.Resets, p.Late, p.Holidays = resets[:2], tiers[:2], days[:2]
	for range 2 {
		check(t, p)
		answers(t, turned(p, func(p *api.Product) { p.Holidays = days }), "", api.ErrProduct)
		answers(t, rich(), richText, api.OK)
	}
	if !slices.Equal(resets, []api.Reset{{After: 1}, {After: 2}, {After: 2, Rate: -1}}) ||
		!slices.Equal(tiers, []api.Tier{{Days: 1}, {Days: 2}, {Days: 2, Fee: -1}}) || !slices.Equal(days, []int{1, 2, 2}) {
		t.Errorf("R3: behind Print the lists are %v, %v, %v", resets, tiers, days)
	}
}

// TestPrintAtOnce: by many at once, each with a product between that is another one.
func TestPrintAtOnce(t *testing.T) {
	p, wrong := rich(), make(chan int)
	for range 8 {
		go func() {
			n := 0
			for range 200 {
				if s, e := printer.Print(p); s != richText || e != api.OK {
					n++
				}
				printer.Print(full())
			}
			wrong <- n
		}()
	}
	for range 8 {
		if n := <-wrong; n != 0 {
			t.Errorf("R2: Print at once: %d of 200 texts are others", n)
		}
	}
}
