package grammar_test

// A second reading of chapter 9, in two steps: where the first sign stands that may not, by a table of what
// each clause has; and, if there is none, the product, from the clauses as they were gathered.

import (
	"regexp"
	"slices"
	"strconv"
	"strings"
	"testing"

	"quittance/api"
	"quittance/civil"
	"quittance/decimal"
	"quittance/grammar"
	"quittance/lexer"
	"quittance/product"
)

// What a place within a clause may hold, beside a list of words.
const (
	aNumber = "a number"
	aRate   = "a rate"
	money   = "money"
	aDate   = "a date"
	kinds   = "fees|penalty|interest|principal"
)

var numberForm = regexp.MustCompile(`\A(?:0|[1-9][0-9]{0,8})\z`)

// places are what stands behind each clause's word. Words stand in the order of their numbers, from 1 on (HalfEven,
// which is 2, has none).
var places = map[string][]string{
	"count": {"thirty|fixed|actual"}, "round": {"half-up||down"}, "kind": {"annuity|equal|bullet"},
	"every": {aNumber}, "times": {aNumber}, "grace": {aNumber}, "rate": {aRate}, "penalty": {aRate},
	"reset": {aNumber, aRate}, "late": {aNumber, money}, "cap": {money}, "holiday": {aDate},
	"order": {kinds, kinds, kinds, kinds}, "over": {"hold|prepay|refund"}, "roll": {"stay|next|within|previous"},
}

// fits tells whether a sign may stand at a place.
func fits(text, place string) bool {
	errno := api.OK
	switch place {
	case aNumber:
		return numberForm.MatchString(text)
	case aRate:
		_, errno = decimal.TakeRate(text)
	case money:
		_, errno = decimal.TakeMoney(text)
	case aDate:
		_, errno = civil.Take(text)
	default:
		return text != "" && slices.Contains(strings.Split(place, "|"), text)
	}
	return errno == api.OK
}

// gathered is a text's name, and its clauses, each with its word; and the error and the place of the first
// sign that may not stand there.
func gathered(tokens []api.Token) (name string, clauses [][]string, at int, errno api.Errno) {
	var open []string // the clause that is not ended yet
	depth := 0
	for i, token := range tokens {
		text, ok := token.Text, false
		switch {
		case i == 0:
			ok = text == "product"
		case i == 1:
			name, ok = text, product.Name(text)
		case i == 2:
			depth, ok = 1, text == "{"
		case depth == 0:
			ok = token.Kind == api.TokEnd
		case open == nil && text == "{":
			if depth++; depth > api.MaxDepth {
				return "", nil, token.At, api.ErrDeep
			}
			ok = true
		case open == nil && text == "}":
			depth, ok = depth-1, true
		case open == nil:
			_, known := places[text]
			again := slices.ContainsFunc(clauses, func(c []string) bool { return c[0] == text })
			ok = known && (!again || text == "holiday" || text == "late" || text == "reset")
			open = []string{text}
		case len(open) > len(places[open[0]]):
			ok = text == ";"
			clauses, open = append(clauses, open), nil
		default:
			ok = fits(text, places[open[0]][len(open)-1]) && (open[0] != "order" || !slices.Contains(open[1:], text))
			open = append(open, text)
		}
		if !ok {
			return "", nil, token.At, api.ErrSyntax
		}
	}
	return name, clauses, 0, api.OK
}

// filled is the product that clauses tell of.
func filled(name string, clauses [][]string) api.Product {
	p := api.Product{Name: name, Over: api.HoldIt, Roll: api.Stay}
	place := func(c []string) int { return 1 + slices.Index(strings.Split(places[c[0]][0], "|"), c[1]) }
	whole := func(s string) int { n, _ := strconv.ParseInt(s, 10, 64); return int(n) }
	rate := func(s string) int64 { v, _ := decimal.TakeRate(s); return v }
	sum := func(s string) int64 { v, _ := decimal.TakeMoney(s); return v }
	for _, c := range clauses {
		switch c[0] {
		case "count":
			p.Count = place(c)
		case "round":
			p.Round = place(c)
		case "kind":
			p.Kind = place(c)
		case "every":
			p.Every = whole(c[1])
		case "times":
			p.Times = whole(c[1])
		case "grace":
			p.Grace = whole(c[1])
		case "rate":
			p.Rate = rate(c[1])
		case "penalty":
			p.Penalty = rate(c[1])
		case "reset":
			p.Resets = append(p.Resets, api.Reset{After: whole(c[1]), Rate: rate(c[2])})
		case "late":
			p.Late = append(p.Late, api.Tier{Days: whole(c[1]), Fee: sum(c[2])})
		case "cap":
			p.Cap = sum(c[1])
		case "holiday":
			day, _ := civil.Take(c[1])
			p.Holidays = append(p.Holidays, day)
		case "order":
			for i, kind := range c[1:] {
				p.Order[i] = 1 + slices.Index(strings.Split(kinds, "|"), kind)
			}
		case "over":
			p.Over = place(c)
		case "roll":
			p.Roll = place(c)
		}
	}
	return p
}

// wanted is what Parse is to answer of s.
func wanted(s string) (api.Product, int, api.Errno) {
	tokens, at, errno := lexer.All(s)
	if errno != api.OK {
		return api.Product{}, at, errno
	}
	name, clauses, at, errno := gathered(tokens)
	if errno != api.OK {
		return api.Product{}, at, errno
	}
	p := filled(name, clauses)
	for _, w := range []string{"count", "round", "kind", "every", "times", "rate", "order"} {
		if !slices.ContainsFunc(clauses, func(c []string) bool { return c[0] == w }) {
			return api.Product{}, tokens[0].At, api.ErrProduct
		}
	}
	if product.Check(p) != api.OK {
		return api.Product{}, tokens[0].At, api.ErrProduct
	}
	return p, 0, api.OK
}

// same tells whether two products are the same (R9).
func same(a, b api.Product) bool {
	lists := slices.Equal(a.Resets, b.Resets) && slices.Equal(a.Late, b.Late) && slices.Equal(a.Holidays, b.Holidays)
	a.Resets, a.Late, a.Holidays = nil, nil, nil
	b.Resets, b.Late, b.Holidays = nil, nil, nil
	return lists && a.Name == b.Name && a.Count == b.Count && a.Round == b.Round && a.Kind == b.Kind &&
		a.Every == b.Every && a.Times == b.Times && a.Grace == b.Grace && a.Rate == b.Rate &&
		a.Penalty == b.Penalty && a.Order == b.Order && a.Over == b.Over && a.Cap == b.Cap && a.Roll == b.Roll
}

// short is a text as a test tells it.
func short(s string) string {
	if len(s) > 600 {
		return s[:600] + " .."
	}
	return s
}

// answers holds Parse of s against a product, a place and an error.
func answers(t *testing.T, s string, want api.Product, wantAt int, wantErrno api.Errno) {
	t.Helper()
	if p, at, e := grammar.Parse(s); !same(p, want) || at != wantAt || e != wantErrno {
		t.Errorf("P9.1: Parse(%q): %+v, %d, error %d; want %+v, %d, %d", short(s), p, at, e, want, wantAt, wantErrno)
	}
}

// refused holds Parse of s, which is no product's text, against a place and an error.
func refused(t *testing.T, s string, at int, errno api.Errno) {
	t.Helper()
	answers(t, s, api.Product{}, at, errno)
	check(t, s)
}

// check holds Parse of s against the second reading.
func check(t *testing.T, s string) {
	t.Helper()
	p, at, errno := wanted(s)
	answers(t, s, p, at, errno)
}
