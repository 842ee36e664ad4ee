package printer_test

// A second reading of chapter 10: the lines that a product's text has, from a table of what each clause has.

import (
	"fmt"
	"math/big"
	"reflect"
	"slices"
	"strings"
	"testing"
	"time"

	"quittance/api"
	"quittance/grammar"
	"quittance/printer"
	"quittance/product"
)

const (
	percent    = api.Unit / 100
	hundred    = 100
	daySeconds = 86_400
)

// decimals is v by d, to so many places behind the point.
func decimals(v, d int64, places int) string {
	return big.NewRat(v, d).FloatString(places)
}

// rate is v as percent: as short as it goes.
func rate(v int64) string {
	return strings.TrimSuffix(strings.TrimRight(decimals(v, percent, 7), "0"), ".") + "%"
}

func money(v int64) string {
	return decimals(v, hundred, 2)
}

func date(day int) string {
	return time.Unix(int64(day)*daySeconds, 0).UTC().Format(time.DateOnly)
}

// nth is the word at that place, from 1 on.
func nth(words string, place int) string {
	return strings.Fields(words)[place-1]
}

// wanted is what Print is to answer of p.
func wanted(p api.Product) (string, api.Errno) {
	if errno := product.Check(p); errno != api.OK {
		return "", errno
	}
	var resets, late, holidays, order string
	for _, r := range p.Resets {
		resets += fmt.Sprintf("|reset %d %s", r.After, rate(r.Rate))
	}
	for _, l := range p.Late {
		late += fmt.Sprintf("|late %d %s", l.Days, money(l.Fee))
	}
	for _, day := range p.Holidays {
		holidays += "|holiday " + date(day)
	}
	for _, kind := range p.Order {
		order += " " + nth("fees penalty interest principal", kind)
	}
	lines := fmt.Sprintf("|count %s|round %s|kind %s|every %d|times %d|grace %d|rate %s|penalty %s%s|order%s|over %s%s|cap %s|roll %s%s",
		nth("thirty fixed actual", p.Count), nth("half-up half-even down", p.Round), nth("annuity equal bullet", p.Kind),
		p.Every, p.Times, p.Grace, rate(p.Rate), rate(p.Penalty), resets, order, nth("hold prepay refund", p.Over), late,
		money(p.Cap), nth("stay next within previous", p.Roll), holidays)
	return "product " + p.Name + " {\n  " + strings.ReplaceAll(lines[1:], "|", ";\n  ") + ";\n}\n", api.OK
}

// same tells whether two products are the same (R9).
func same(a, b api.Product) bool {
	lists := slices.Equal(a.Resets, b.Resets) && slices.Equal(a.Late, b.Late) && slices.Equal(a.Holidays, b.Holidays)
	a.Resets, a.Late, a.Holidays = nil, nil, nil
	b.Resets, b.Late, b.Holidays = nil, nil, nil
	return lists && reflect.DeepEqual(a, b)
}

// answers holds Print of p against a text and an error.
func answers(t *testing.T, p api.Product, want string, wantErrno api.Errno) {
	t.Helper()
	if s, e := printer.Print(p); s != want || e != wantErrno {
		t.Errorf("P10.1: Print(%+v): %q, error %d; want %q, %d", p, s, e, want, wantErrno)
	}
}

// check holds Print of p against the second reading; and, if p may be, p against what Parse makes of its text.
func check(t *testing.T, p api.Product) {
	t.Helper()
	want, wantErrno := wanted(p)
	answers(t, p, want, wantErrno)
	if wantErrno != api.OK {
		return
	}
	s, _ := printer.Print(p)
	if q, at, e := grammar.Parse(s); !same(p, q) || at != 0 || e != api.OK {
		t.Errorf("W1: Parse(%q): %+v, %d, error %d; want %+v, 0, 0", s, q, at, e, p)
	}
}
