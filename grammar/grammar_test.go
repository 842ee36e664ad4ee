package grammar_test

import (
	"slices"
	"strings"
	"testing"
	"unsafe"

	"quittance/api"
	"quittance/civil"
	"quittance/decimal"
	"quittance/grammar"
	"quittance/lexer"
)

// words are those of grammar, as the chapter lists them.
const words = "product, count, thirty, fixed, actual, round, half-up, down, kind, annuity, equal, bullet, every, times, grace, " +
	"rate, penalty, reset, late, cap, holiday, order, fees, interest, principal, over, hold, prepay, refund, roll, stay, next, " +
	"within, previous"

// must are the clauses that have no "without it", one of each.
const must = "count fixed; round down; kind equal; every 6; times 40; rate 5.25%; order interest fees principal penalty;"

// more are clauses that may be left out, but for cap, late, holiday and roll, which hang on each other.
const more = "grace 39; penalty 0.5%; over prepay; reset 4 6%;"

// rest are those that are in neither.
const rest = "late 5 0.05; cap 1.00; roll next; holiday 2024-12-25;"

// clausesOf are the clauses of a text without groups.
func clausesOf(s string) []string {
	var l []string
	for c := range strings.SplitAfterSeq(s, ";") {
		if c != "" {
			l = append(l, strings.TrimSpace(c))
		}
	}
	return l
}

// text is that of a product called a with these clauses.
func text(clauses ...string) string {
	return "product a {" + strings.Join(clauses, "") + "}"
}

// least is the product that must tells of.
func least() api.Product {
	return api.Product{
		Name: "a", Count: api.Fixed, Round: api.Down, Kind: api.Equal, Every: 6, Times: 40, Rate: 52_500_000,
		Order: [4]int{api.Interest, api.Fees, api.Principal, api.Penalty}, Over: api.HoldIt, Roll: api.Stay,
	}
}

// all is the product that must, more and rest tell of.
func all() api.Product {
	p := least()
	p.Grace, p.Penalty, p.Over, p.Resets = 39, 5_000_000, api.Prepay, []api.Reset{{After: 4, Rate: 60_000_000}}
	p.Late, p.Cap, p.Roll, p.Holidays = []api.Tier{{Days: 5, Fee: 5}}, 100, api.Next, []int{20_082}
	return p
}

// changed is a product with something changed in it.
func changed(p api.Product, change func(p *api.Product)) api.Product {
	change(&p)
	return p
}

func TestParse(t *testing.T) {
	answers(t, text(must), least(), 0, api.OK)
	answers(t, text(must, more, rest), all(), 0, api.OK)
	answers(t, text(rest, more, must), all(), 0, api.OK)
	answers(t, "# a loan\n\n\tproduct#\na#\n{#}\n"+strings.ReplaceAll(must+more+rest, " ", "\t# , \n ")+"}\n# x", all(), 0, api.OK)
	answers(t, "product a{"+must+more+rest+"}", all(), 0, api.OK)
	for _, s := range []string{text(must), text(must, more), text(must, more, rest), text(must, rest)} {
		check(t, s)
	}
}

// TestParseOfEachClause: what each clause alone changes.
func TestParseOfEachClause(t *testing.T) {
	for _, r := range []struct {
		instead, clause string // the first one's word tells what is taken away
		change          func(p *api.Product)
	}{
		{"count", "count thirty;", func(p *api.Product) { p.Count = api.Thirty }},
		{"count", "count fixed;", func(p *api.Product) { p.Count = api.Fixed }},
		{"count", "count actual;", func(p *api.Product) { p.Count = api.Actual }},
		{"round", "round half-up;", func(p *api.Product) { p.Round = api.HalfUp }},
		{"round", "round down;", func(p *api.Product) { p.Round = api.Down }},
		{"kind", "kind annuity;", func(p *api.Product) { p.Kind = api.Annuity }},
		{"kind", "kind equal;", func(p *api.Product) { p.Kind = api.Equal }},
		{"kind", "kind bullet;", func(p *api.Product) { p.Kind = api.Bullet }},
		{"every", "every 12;", func(p *api.Product) { p.Every = 12 }},
		{"times", "times 600;", func(p *api.Product) { p.Times = 600 }},
		{"times", "times 1;", func(p *api.Product) { p.Times = 1 }},
		{"rate", "rate 0%;", func(p *api.Product) { p.Rate = 0 }},
		{"rate", "rate 100%;", func(p *api.Product) { p.Rate = api.Unit }},
		{"rate", "rate 0.0000001%;", func(p *api.Product) { p.Rate = 1 }},
		{"order", "order fees penalty interest principal;", func(p *api.Product) { p.Order = [4]int{1, 2, 3, 4} }},
		{"order", "order principal interest penalty fees;", func(p *api.Product) { p.Order = [4]int{4, 3, 2, 1} }},
		{"", "grace 0;", func(p *api.Product) {}},
		{"", "grace 39;", func(p *api.Product) { p.Grace = 39 }},
		{"", "penalty 0%;", func(p *api.Product) {}},
		{"", "penalty 99.9999999%;", func(p *api.Product) { p.Penalty = api.Unit - 1 }},
		{"", "reset 1 0%;", func(p *api.Product) { p.Resets = []api.Reset{{After: 1}} }},
		{"", "reset 7 7%; reset 39 3.9%;", func(p *api.Product) {
			p.Resets = []api.Reset{{After: 7, Rate: 70_000_000}, {After: 39, Rate: 39_000_000}}
		}},
		{"", "late 365 0.00;", func(p *api.Product) { p.Late = []api.Tier{{Days: 365}} }},
		{"", "late 1 15.00; late 2 100000000000.00;", func(p *api.Product) {
			p.Late = []api.Tier{{Days: 1, Fee: 1500}, {Days: 2, Fee: api.MaxLoan}}
		}},
		{"", "cap 0.00;", func(p *api.Product) {}},
		{"", "cap 0.01; late 1 0.00;", func(p *api.Product) { p.Cap, p.Late = 1, []api.Tier{{Days: 1}} }},
		{"", "over hold;", func(p *api.Product) {}},
		{"", "over prepay;", func(p *api.Product) { p.Over = api.Prepay }},
		{"", "over refund;", func(p *api.Product) { p.Over = api.Refund }},
		{"", "roll stay;", func(p *api.Product) {}},
		{"", "roll next;", func(p *api.Product) { p.Roll = api.Next }},
		{"", "roll within;", func(p *api.Product) { p.Roll = api.Within }},
		{"", "roll previous;", func(p *api.Product) { p.Roll = api.Previous }},
		{"", "roll next; holiday 1900-01-01; holiday 1970-01-01; holiday 2200-12-31;", func(p *api.Product) {
			p.Roll, p.Holidays = api.Next, []int{api.FirstDay, 0, api.LastDay}
		}},
	} {
		left := slices.DeleteFunc(clausesOf(must), func(c string) bool { return strings.HasPrefix(c, r.instead+" ") })
		s := text(append(left, r.clause)...)
		answers(t, s, changed(least(), r.change), 0, api.OK)
		check(t, s)
	}
}

// TestPlaces: where what may not stand there is told. A bar in a text is taken out, and marks the place.
func TestPlaces(t *testing.T) {
	for _, marked := range []string{
		"|", " \n# x\n |", "|a", "|{", "|;", "|5", "|Product a {}", "|products a {}", "|product-a {}", "|a product {}",
		"product|", "product |{", "product |;", "product |5", "product |product {}", "product |A {}", "product |a9A {}",
		"product |order {}", "product |half-up {}", "product |abcdefghijklmnopqrstu {}",
		"product a|", "product a# {}|", "product a |a {}", "product a |;", "product a |}", "product a |5", "product a |count fixed;",
		"product a {|", "product a { |;", "product a { |5; }", "product a { |fixed; }", "product a { |product a {} }",
		"product a { |x; }", "product a { |Count fixed; }", "product a { |interest; }", "product a { |half-up; }", "product a { {}|; }",
		"product a {} |}", "product a {}|;", "product a {} |{}", "product a {} |product a {}", "product a {} |count fixed;",
		"product a {} |5", "product a {{}|", "product a {{}} |x",
		"product a { count|", "product a { count |}", "product a { count|; }", "product a { count |{ fixed; } }", "product a { count |Fixed; }",
		"product a { count |equal; }", "product a { count |365; }", "product a { count fixed|", "product a { count fixed|}",
		"product a { count fixed |{ } ; }", "product a { count fixed |actual; }", "product a { count fixed |fixed; }", "product a { count fixed |round down; }",
		"product a { round |up; }", "product a { round |half-even; }", "product a { round |half down; }", "product a { kind |loan; }",
		"product a { over |holdit; }", "product a { over |stay; }", "product a { roll |hold; }", "product a { roll |nearest; }",
		"product a { every |x; }", "product a { every |01; }", "product a { every |00; }", "product a { every |1.0; }", "product a { every |1-; }", "product a { every |1/2; }",
		"product a { every|; }", "product a { every 1 |2; }", "product a { times |1000000000; }", "product a { times |-0; }", "product a { grace |-5; }",
		"product a { times |99999999999999999999; }", "product a { grace |0.00; }", "product a { times |2024-01-01; }",
		"product a { rate |5.00; }", "product a { rate |5; }", "product a { rate |-0%; }", "product a { rate |05%; }", "product a { rate |1000.0000001%; }",
		"product a { rate |0.00000001%; }", "product a { rate 5% |5%; }", "product a { rate |5%%; }", "product a { penalty |interest; }", "product a { penalty|; }",
		"product a { reset |6%; }", "product a { reset |04 6%; }", "product a { reset 4 |4; }", "product a { reset 4|; }", "product a { reset |6% 4; }", "product a { reset 4 6% |8 7%; }",
		"product a { late |5.00; }", "product a { late 5 |5; }", "product a { late 5 |5%; }", "product a { late 5 |5.0; }", "product a { late |5.00 5; }", "product a { late 5 5.00 |6 6.00; }",
		"product a { late |5% 5.00; }", "product a { cap |5; }", "product a { cap |5%; }", "product a { cap |05.00; }", "product a { cap |-0.00; }", "product a { cap |99999999999999999999.99; }",
		"product a { cap |999999999999999999999.99; }", "product a { cap |5.00-; }", "product a { cap 5.00 |5.00; }",
		"product a { holiday |2024; }", "product a { holiday |2024-1-1; }", "product a { holiday |2024/01/01; }", "product a { holiday |2023-02-29; }",
		"product a { holiday |2024-13-01; }", "product a { holiday |1899-12-31; }", "product a { holiday |2201-01-01; }", "product a { holiday 2024-01-01 |2024-01-02; }",
		"product a { holiday |-2024-01-01; }", "product a { holiday |christmas; }",
		"product a { order|; }", "product a { order |fee; }", "product a { order fees |fees; }", "product a { order fees penalty |fees; }", "product a { order fees penalty interest |penalty; }",
		"product a { order fees penalty interest|; }", "product a { order fees penalty interest |}", "product a { order fees penalty interest principal |fees; }",
		"product a { order fees penalty interest |hold; }", "product a { order fees |order; }", "product a { order |1 2 3 4; }",
		// The first that may not stand there counts, whatever follows.
		"product a { count |sixty; count sixty; } }", "product |rate { rate rate; ", "product a {} |x y {",
		// What is at fault in a product counts behind all signs.
		"product a { times 0; |x; }", "product a { late 5 5.00; late 4 4.00; } |x",
	} {
		at := strings.Index(marked, "|")
		refused(t, marked[:at]+marked[at+1:], at, api.ErrSyntax)
	}
}

// TestLexerFirst: what lexer refuses is told first, wherever it stands.
func TestLexerFirst(t *testing.T) {
	for _, marked := range []string{
		"|,", "|-", "x |,", "product |_a {}", "product a {} |,", "product a { count sixty; } |,", "} } |.5", text(must) + "|\r\n",
		"product a " + strings.Repeat("{", 40) + "|+", "product a { times 0; |? }", "product a { rate 5|,25%; }", "product a { |\"count\" fixed; }", "|\xff", "|\u00e9",
	} {
		at := strings.Index(marked, "|")
		refused(t, marked[:at]+marked[at+1:], at, api.ErrToken)
	}
}

func TestTextsAroundTheLimit(t *testing.T) {
	for _, blank := range []string{" ", "\n", "\t", "#", "\n#"} {
		fill := func(n int) string { return strings.Repeat(blank, n)[:n] }
		s := text(must, more, rest)
		answers(t, s+fill(api.MaxText-len(s)), all(), 0, api.OK)
		refused(t, s+fill(api.MaxText-len(s)+1), 0, api.ErrRange)
		refused(t, fill(api.MaxText-1)+"\n", api.MaxText, api.ErrSyntax)
		refused(t, fill(api.MaxText+1), 0, api.ErrRange)
		refused(t, fill(1<<20), 0, api.ErrRange)
		refused(t, ","+fill(api.MaxText), 0, api.ErrRange)
		refused(t, fill(api.MaxText-20)+"\nproduct a {}", api.MaxText-19, api.ErrProduct)
		refused(t, "product a {}"+fill(api.MaxText-20)+"\n}", api.MaxText-7, api.ErrSyntax)
	}
	for _, s := range []string{"product ", "{", "}", ";", "5 ", "a ", "product a { holiday 2024-01-01; "} {
		check(t, strings.Repeat(s, api.MaxText/len(s)))
		check(t, "product a {"+strings.Repeat(s, (api.MaxText-11)/len(s)))
	}
	// A list as long as a text can have it is read to its end, and then refused.
	check(t, text(must, strings.Repeat("holiday 2024-01-01;", 1000)))
	check(t, text(must, strings.Repeat("{}", 9000)))
}

func TestGroups(t *testing.T) {
	within := func(n int, s string) string { return strings.Repeat("{", n) + s + strings.Repeat("}", n) }
	for n := range api.MaxDepth + 8 {
		for _, inner := range []string{"", must, must + more + rest, "x", "{}", "count", "count fixed; count fixed;"} {
			check(t, "product a "+within(n, inner))
			check(t, "product a {"+must+within(n, "")+within(n, "")+within(n, more)+rest+"}")
		}
	}
	deepest := within(api.MaxDepth-1, must)
	answers(t, text(deepest), least(), 0, api.OK)
	answers(t, text(deepest, within(api.MaxDepth-1, more+rest)), all(), 0, api.OK)
	refused(t, text(within(api.MaxDepth, must)), 10+api.MaxDepth, api.ErrDeep)
	refused(t, text(within(api.MaxDepth+1, must)), 10+api.MaxDepth, api.ErrDeep)
	refused(t, text(strings.Repeat("{", api.MaxDepth-1), "}", "{", "{"), 10+api.MaxDepth+2, api.ErrDeep)
	// How many groups there are plays no part, nor what was read ahead of one that is too deep.
	answers(t, text(strings.Repeat(deepest[:31]+deepest[len(deepest)-31:], 200), must), least(), 0, api.OK)
	refused(t, text("times 0;", strings.Repeat("{", api.MaxDepth)), 10+8+api.MaxDepth, api.ErrDeep)
	refused(t, text(must, strings.Repeat("{", api.MaxDepth)+" x"), 10+len(must)+api.MaxDepth, api.ErrDeep)
	refused(t, text("x", strings.Repeat("{", api.MaxDepth)), 11, api.ErrSyntax)
	// Where no group may stand, one that would be too deep may not stand either.
	refused(t, text(strings.Repeat("{", api.MaxDepth-1), "count {"), 11+31+6, api.ErrSyntax)
	refused(t, text(strings.Repeat("{", api.MaxDepth-1), "count fixed{"), 11+31+11, api.ErrSyntax)
	refused(t, "product "+strings.Repeat("{", 40), 8, api.ErrSyntax)
	refused(t, text()+strings.Repeat("{", 40), 12, api.ErrSyntax)
	// Clauses in groups stand as if they stood outside: each of them in one of its own.
	var apart []string
	for i, c := range clausesOf(must + more + rest) {
		apart = append(apart, within(i, c))
	}
	answers(t, text(apart...), all(), 0, api.OK)
}

// TestClausesInAnyOrder: those that must be there in each order that there is, and all in many.
func TestClausesInAnyOrder(t *testing.T) {
	l := clausesOf(must)
	var permute func(k int)
	permute = func(k int) {
		if k == len(l) {
			answers(t, text(l...), least(), 0, api.OK)
			return
		}
		for i := k; i < len(l); i++ {
			l[k], l[i] = l[i], l[k]
			permute(k + 1)
			l[k], l[i] = l[i], l[k]
		}
	}
	permute(0)
	l = clausesOf(must + more + rest)
	for step := 1; step < len(l); step++ {
		for range len(l) {
			l = append(l[1:], l[0])
			answers(t, text(l...), all(), 0, api.OK)
			i := step % len(l)
			l[0], l[i] = l[i], l[0]
			answers(t, text(l...), all(), 0, api.OK)
		}
	}
}

// TestClausesThatAreMissing: every choice of clauses.
func TestClausesThatAreMissing(t *testing.T) {
	l := clausesOf(must + more + rest)
	if len(l) != 15 {
		t.Fatalf("the clauses are %d; want 15", len(l))
	}
	for set := range 1 << len(l) {
		var some []string
		for i, c := range l {
			if set>>i&1 == 1 {
				some = append(some, c)
			}
		}
		check(t, text(some...))
		if set%128 != 127 { // one of the seven that must be there is not
			refused(t, "\n"+text(some...), 1, api.ErrProduct)
		}
	}
}

// TestClausesTwice: each clause with each behind it, in one group or in two, a third time, and with other things in it.
func TestClausesTwice(t *testing.T) {
	other := []string{"count actual;", "round half-up;", "kind annuity;", "every 1;", "times 50;", "rate 1%;", "order fees penalty interest principal;", "grace 1;", "penalty 0%;", "over hold;", "reset 5 6%;", "late 6 0.06;", "cap 0.00;", "roll stay;", "holiday 2024-12-26;"}
	l := clausesOf(must + more + rest)
	for i, c := range l {
		word, _, _ := strings.Cut(c, " ")
		again := text(l...)
		again = again[:len(again)-1]
		for _, tail := range []string{c, other[i]} {
			check(t, again+tail+"}")
			if often := word == "late" || word == "reset" || word == "holiday"; !often {
				refused(t, again+tail+"}", len(again), api.ErrSyntax)
				refused(t, again+"{{"+tail+"}}}", len(again)+2, api.ErrSyntax)
				refused(t, text("{", c, "}{", tail, "}"), 11+len(c)+3, api.ErrSyntax)
				refused(t, text(c, word), 11+len(c), api.ErrSyntax)
			}
		}
		for _, d := range other {
			check(t, text(c, d))
			check(t, text(must, c, d))
			check(t, text(must, more, rest, c, d))
		}
	}
	want := changed(all(), func(p *api.Product) {
		p.Resets = append(p.Resets, api.Reset{After: 5, Rate: 60_000_000})
		p.Late = append(p.Late, api.Tier{Days: 6, Fee: 6})
		p.Holidays = append(p.Holidays, 20_083)
	})
	answers(t, text(must, more, rest, "{", other[10], "{", other[11], "}}", other[14]), want, 0, api.OK)
}

// TestListsAroundTheirLimits: a list is taken as it stands; whether it may be is Check's.
func TestListsAroundTheirLimits(t *testing.T) {
	build := func(n int, one func(i int) string) string {
		var s strings.Builder
		for i := range n {
			s.WriteString(one(i))
		}
		return s.String()
	}
	itoa := func(i int) string { return strings.TrimSuffix(decimal.Money(int64(i)*100), ".00") }
	for _, r := range []struct {
		most int
		head string
		one  func(i int) string
		get  func(p api.Product) int
	}{
		{api.MaxResets, "", func(i int) string { return "reset " + itoa(i+1) + " " + decimal.Rate(int64(i)) + ";" }, func(p api.Product) int { return len(p.Resets) }},
		{api.MaxTiers, "", func(i int) string { return "late " + itoa(i+1) + " " + decimal.Money(int64(i)) + ";" }, func(p api.Product) int { return len(p.Late) }},
		{api.MaxHolidays, "roll next;", func(i int) string { s, _ := civil.Text(i); return "holiday " + s + ";" }, func(p api.Product) int { return len(p.Holidays) }},
	} {
		for n := range r.most + 3 {
			s := text(must, r.head, build(n, r.one))
			check(t, s)
			p, _, e := grammar.Parse(s)
			if ok := n <= r.most; (e == api.OK) != ok || ok && r.get(p) != n {
				t.Errorf("P9.1: Parse of a list of %d: it has %d, error %d", n, r.get(p), e)
			}
		}
		refused(t, " "+text(must, r.head, build(r.most+1, r.one)), 1, api.ErrProduct)
		refused(t, "  "+text(must, r.head, r.one(2), r.one(1)), 2, api.ErrProduct)
		refused(t, "#\n"+text(must, r.head, r.one(2), r.one(2)), 2, api.ErrProduct)
	}
}

// TestProductsThatMayNotBe: texts that say what Check refuses.
func TestProductsThatMayNotBe(t *testing.T) {
	for _, r := range []struct{ from, to string }{
		{"every 6", "every 5"}, {"every 6", "every 0"}, {"every 6", "every 999999999"}, {"times 40", "times 0"}, {"times 40", "times 601"},
		{"times 40", "times 39"}, {"times 40", "times 4"}, {"times 40", "times 999999999"}, {"kind equal", "kind bullet"}, {"grace 39", "grace 40"},
		{"rate 5.25%", "rate 100.0000001%"}, {"rate 5.25%", "rate -1%"}, {"rate 5.25%", "rate 1000%"}, {"rate 5.25%", "rate -1000%"},
		{"penalty 0.5%", "penalty 101%"}, {"penalty 0.5%", "penalty -0.0000001%"}, {"reset 4 6%", "reset 0 6%"}, {"reset 4 6%", "reset 40 6%"},
		{"reset 4 6%", "reset 4 101%"}, {"late 5 0.05", "late 0 0.05"}, {"late 5 0.05", "late 366 0.05"}, {"late 5 0.05", "late 5 -0.05"},
		{"late 5 0.05", "late 5 100000000000.01"}, {"late 5 0.05;", ""}, {"cap 1.00", "cap 100000000000.01"}, {"cap 1.00", "cap -1.00"},
		{"roll next;", ""}, {"roll next;", "roll stay;"},
	} {
		s := strings.Replace(text(must, more, rest), r.from, r.to, 1)
		for _, ahead := range []string{"", " ", "# product\n"} {
			refused(t, ahead+s, len(ahead), api.ErrProduct)
		}
	}
}

func TestNames(t *testing.T) {
	for _, name := range []string{"a", "z", "home", "a-b", "a-", "a9", "half", "orders", "products", "abcdefghijklmnopqrst"} {
		want := least()
		want.Name = name
		answers(t, "product "+name+"{"+must+"}", want, 0, api.OK)
		refused(t, "product "+strings.ToUpper(name)+" {"+must+"}", 8, api.ErrSyntax)
	}
	list := strings.Split(words, ", ")
	if len(list) != 34 {
		t.Fatalf("the words are %d; want 34", len(list))
	}
	for _, name := range list {
		refused(t, "product  "+name+" {"+must+"}", 9, api.ErrSyntax)
		check(t, "product "+name+"s {"+must+"}")
	}
}

func TestOrders(t *testing.T) {
	left := strings.Join(slices.DeleteFunc(clausesOf(must), func(c string) bool { return strings.HasPrefix(c, "order") }), "")
	list := strings.Split(kinds, "|")
	may := 0
	for _, a := range list {
		for _, b := range list {
			for _, c := range list {
				for _, d := range list {
					s := text(left, "order "+a+" "+b+" "+c+" "+d+";")
					check(t, s)
					if _, _, e := grammar.Parse(s); e == api.OK {
						may++
					}
					check(t, text(left, "order "+a+" "+b+" "+c+";"))
					check(t, text(left, "order "+a+" "+b+" "+c+" "+d+" "+a+";"))
				}
			}
		}
	}
	if may != 24 {
		t.Errorf("P9.1: %d orders may be; want 24", may)
	}
}

// TestNumbers: every short text of what a number is made of, in each place that takes one.
func TestNumbers(t *testing.T) {
	l := clausesOf(must + more + rest)
	var grow func(s string)
	grow = func(s string) {
		for _, c := range []string{"every ", "times ", "grace ", "rate ", "late ", "late 5 ", "reset 4 ", "cap ", "holiday "} {
			word, _, _ := strings.Cut(c, " ")
			left := slices.DeleteFunc(slices.Clone(l), func(c string) bool { return strings.HasPrefix(c, word+" ") })
			check(t, text(append(left, c+s+";")...))
			check(t, text(append(left, c+s+" 5.00;")...))
			check(t, text(append(left, c+s+" 5%;")...))
		}
		if len(s) < 4 {
			for _, d := range "019-.%" {
				grow(s + string(d))
			}
		}
	}
	grow("")
	for _, s := range []string{"9999999", "99999999", "999999999", "1000000000", "9999999999", "4294967297", "18446744073709551617", "000000001", "0000000001", "-1", "-0", "00"} {
		for _, c := range []string{"every ", "times ", "grace ", "late ", "reset "} {
			check(t, text(c+s+";"))
			check(t, text(c+s+" 5.00;"))
		}
	}
	for n := range 700 {
		s := strings.Replace(text(must), "times 40", "times "+strings.TrimSuffix(decimal.Money(int64(n)*100), ".00"), 1)
		p, at, e := grammar.Parse(s)
		if ok := n >= 1 && n <= api.MaxTimes; ok && (p.Times != n || e != api.OK) || !ok && e != api.ErrProduct || at != 0 {
			t.Errorf("P9.1: Parse(%q): %d times, %d, error %d", s, p.Times, at, e)
		}
	}
}

// someSigns are signs of all kinds: the words of grammar, some that are none, numbers of each form, and what lexer takes for one.
func someSigns() []string {
	return append(strings.Split(words, ", "), "x", "Count", "product-", "5", "0", "40", "007", "999999999", "1000000000", "-5", "5%", "0.5%", "100%", "101%", "5.00", "0.01", "-1.00", "5.0", "2024-01-01", "2024-12-31", "2023-02-29", "5/5", "{", "}", ";")
}

// TestOneSignOff: a text with one sign left out, told twice, put in, put in another's place, or with two changed about, at each place.
func TestOneSignOff(t *testing.T) {
	for _, s := range []string{text(must, "{", more, "}", rest), text(must)} {
		tokens, _, _ := lexer.All(s)
		var signs []string
		for _, token := range tokens[:len(tokens)-1] {
			signs = append(signs, token.Text)
		}
		join := func(parts ...[]string) string { return strings.Join(slices.Concat(parts...), " ") }
		for i := range len(signs) + 1 {
			check(t, join(signs[:i]))
			check(t, join(signs[i:]))
			for _, x := range someSigns() {
				check(t, join(signs[:i], []string{x}, signs[i:]))
				check(t, join(signs[:i], []string{x}, signs[min(i+1, len(signs)):]))
				check(t, join(signs[:i], []string{x}))
			}
			check(t, join(signs[:i], signs[min(i+1, len(signs)):]))
			for j := range i {
				swapped := slices.Clone(signs)
				if i < len(signs) {
					swapped[i], swapped[j] = swapped[j], swapped[i]
				}
				check(t, join(swapped))
				check(t, join(signs[:j], signs[i:]))
			}
		}
	}
}

// TestOneByteOff: every byte at each place of a text, instead of what stands there; and the text cut there.
func TestOneByteOff(t *testing.T) {
	s := text(must, "{", more, "}", rest)
	for i := range len(s) {
		check(t, s[:i])
		check(t, s[i:])
		for c := range 256 {
			check(t, s[:i]+string([]byte{byte(c)})+s[i+1:])
		}
	}
}

// TestShortTexts: every text of a few signs, from the start, within a group, and within a clause.
func TestShortTexts(t *testing.T) {
	signs := []string{"product", "a", "{", "}", ";", "count", "fixed", "late", "5", "5.00", "x"}
	var grow func(s string, n int)
	grow = func(s string, n int) {
		check(t, s)
		if n == 0 {
			return
		}
		for _, x := range signs {
			grow(s+" "+x, n-1)
		}
	}
	grow("", 4)
	grow("product a {", 4)
	grow("product a { count", 3)
	grow("product a { late 5", 3)
	grow("product a { "+must, 3)
	grow("product a { "+must+"}", 2)
}

func TestAnswersAreNewMemory(t *testing.T) {
	s := strings.Clone(text(must, more, rest))
	first, _, _ := grammar.Parse(s)
	if unsafe.StringData(first.Name) == unsafe.StringData(s[len("product "):]) {
		t.Error("R3: the name is a piece of the text")
	}
	clear(first.Resets[:cap(first.Resets)])
	clear(first.Late[:cap(first.Late)])
	clear(first.Holidays[:cap(first.Holidays)])
	answers(t, s, all(), 0, api.OK)
	// What was refused leaves nothing behind: neither what was told nor what it was.
	for _, wrong := range []string{text(must, more, rest, "x"), text("times 0;"), "product a " + strings.Repeat("{", 40), ",", ""} {
		grammar.Parse(wrong)
		answers(t, s, all(), 0, api.OK)
		answers(t, text(must), least(), 0, api.OK)
	}
}
