package decimal_test

import (
	"math"
	"math/big"
	"regexp"
	"strings"
	"testing"

	"quittance/api"
	"quittance/decimal"
)

// edges are numbers at which a text grows by a digit, or a bound is crossed, each with its neighbours.
func edges() []int64 {
	l := []int64{0, math.MinInt64, math.MinInt64 + 1, math.MaxInt64 - 1, math.MaxInt64}
	for v := int64(1); v <= 1_000_000_000_000_000_000; v *= 10 {
		for _, w := range []int64{v - 1, v, v + 1, v + v/10, 5 * v, 9 * v} {
			l = append(l, w, -w)
		}
		if v == 1_000_000_000_000_000_000 {
			break
		}
	}
	return l
}

var (
	moneyForm = regexp.MustCompile(`\A(-?)(0|[1-9][0-9]{0,19})\.([0-9]{2})\z`)
	rateForm  = regexp.MustCompile(`\A(-?)(0|[1-9][0-9]*)(?:\.([0-9]{0,6}[1-9]))?%\z`)
)

// said is what a text of that form says, in numbers without bounds; nil if it has not that form.
func said(form *regexp.Regexp, places int, s string) *big.Int {
	m := form.FindStringSubmatch(s)
	if m == nil {
		return nil
	}
	v, _ := new(big.Int).SetString(m[2]+m[3]+strings.Repeat("0", places-len(m[3])), 10)
	if m[1] == "-" {
		if v.Sign() == 0 {
			return nil
		}
		v.Neg(v)
	}
	return v
}

// wantMoney is what TakeMoney is to answer of s.
func wantMoney(s string) (int64, api.Errno) {
	v := said(moneyForm, 2, s)
	if v == nil {
		return 0, api.ErrForm
	}
	if v.CmpAbs(big.NewInt(api.MaxMoney)) > 0 {
		return 0, api.ErrRange
	}
	return v.Int64(), api.OK
}

// wantRate is what TakeRate is to answer of s.
func wantRate(s string) (int64, api.Errno) {
	v := said(rateForm, 7, s)
	if v == nil || v.CmpAbs(big.NewInt(10*api.Unit)) > 0 {
		return 0, api.ErrForm
	}
	return v.Int64(), api.OK
}

// texts calls f with each text of at most n of these signs.
func texts(signs string, n int, f func(s string)) {
	var grow func(s string)
	grow = func(s string) {
		f(s)
		if len(s) == n {
			return
		}
		for i := range len(signs) {
			grow(s + signs[i:i+1])
		}
	}
	grow("")
}

func checkMoney(t *testing.T, s string) {
	t.Helper()
	want, wantErrno := wantMoney(s)
	if v, e := decimal.TakeMoney(s); v != want || e != wantErrno {
		t.Errorf("P2.1: TakeMoney(%q): %d, error %d; want %d, %d", s, v, e, want, wantErrno)
	}
}

func checkRate(t *testing.T, s string) {
	t.Helper()
	want, wantErrno := wantRate(s)
	if v, e := decimal.TakeRate(s); v != want || e != wantErrno {
		t.Errorf("P2.2: TakeRate(%q): %d, error %d; want %d, %d", s, v, e, want, wantErrno)
	}
}

func TestMoney(t *testing.T) {
	for _, r := range []struct {
		v int64
		s string
	}{
		{0, "0.00"}, {1, "0.01"}, {-1, "-0.01"}, {-5, "-0.05"}, {10, "0.10"}, {99, "0.99"}, {-99, "-0.99"},
		{100, "1.00"}, {101, "1.01"}, {-100, "-1.00"}, {999, "9.99"}, {1000, "10.00"}, {-123_456, "-1234.56"},
		{api.MaxLoan, "100000000000.00"},
		{api.MaxMoney, "10000000000000.00"}, {-api.MaxMoney, "-10000000000000.00"},
		{api.MaxMoney - 1, "9999999999999.99"}, {1 - api.MaxMoney, "-9999999999999.99"},
	} {
		if s := decimal.Money(r.v); s != r.s {
			t.Errorf("P2.1: Money(%d): %q; want %q", r.v, s, r.s)
		}
		if v, e := decimal.TakeMoney(r.s); v != r.v || e != api.OK {
			t.Errorf("P2.1: TakeMoney(%q): %d, error %d; want %d, 0", r.s, v, e, r.v)
		}
	}
}

// TestMoneyBeyondBounds: Money writes whatever number there is; to take it back is refused.
func TestMoneyBeyondBounds(t *testing.T) {
	for _, r := range []struct {
		v int64
		s string
	}{
		{api.MaxMoney + 1, "10000000000000.01"}, {-api.MaxMoney - 1, "-10000000000000.01"},
		{math.MaxInt64, "92233720368547758.07"}, {math.MinInt64, "-92233720368547758.08"},
	} {
		if s := decimal.Money(r.v); s != r.s {
			t.Errorf("P2.1: Money(%d): %q; want %q", r.v, s, r.s)
		}
		if v, e := decimal.TakeMoney(r.s); v != 0 || e != api.ErrRange {
			t.Errorf("P2.1: TakeMoney(%q): %d, error %d; want 0, 3", r.s, v, e)
		}
	}
}

func TestTakeMoneyRefuses(t *testing.T) {
	nines := strings.Repeat("9", 20)
	for _, r := range []struct {
		s string
		e api.Errno
	}{
		{"", api.ErrForm}, {"-", api.ErrForm}, {".", api.ErrForm}, {"-.", api.ErrForm}, {"0", api.ErrForm},
		{"00", api.ErrForm}, {"1", api.ErrForm}, {"1.", api.ErrForm}, {"1.0", api.ErrForm}, {"1.000", api.ErrForm},
		{".10", api.ErrForm}, {"-.10", api.ErrForm}, {"00.00", api.ErrForm}, {"01.00", api.ErrForm},
		{"-01.00", api.ErrForm}, {"-0.00", api.ErrForm}, {"--1.00", api.ErrForm}, {"1.00-", api.ErrForm},
		{"+1.00", api.ErrForm}, {"1,00", api.ErrForm}, {"1,000.00", api.ErrForm}, {"1_0.00", api.ErrForm},
		{" 1.00", api.ErrForm}, {"1.00 ", api.ErrForm}, {"1.00\n", api.ErrForm}, {"1.00\x00", api.ErrForm},
		{"1.0.0", api.ErrForm}, {"1..00", api.ErrForm}, {"1.-1", api.ErrForm}, {"1.+1", api.ErrForm},
		{"0x1.00", api.ErrForm}, {"1e2.00", api.ErrForm}, {"1.e2", api.ErrForm}, {"a.00", api.ErrForm},
		{"1.0a", api.ErrForm}, {"1/.00", api.ErrForm}, {"1:.00", api.ErrForm}, {"1.0:", api.ErrForm},
		{"\u0661.00", api.ErrForm}, {"1.\u0661", api.ErrForm}, {"1.\xff0", api.ErrForm}, {"1.00%", api.ErrForm},
		// Twenty digits ahead of the point are a number; one more, and it is no form.
		{nines + ".99", api.ErrRange}, {"-" + nines + ".99", api.ErrRange},
		{"1" + strings.Repeat("0", 19) + ".00", api.ErrRange},
		{"9" + nines + ".99", api.ErrForm}, {"-9" + nines + ".99", api.ErrForm},
		{"0" + nines + ".99", api.ErrForm}, {strings.Repeat("0", 20) + ".00", api.ErrForm},
		// In 64 bits these would go round to small numbers.
		{"184467440737095516.16", api.ErrRange}, {"184467440737095517.16", api.ErrRange},
		{"-184467440737095516.17", api.ErrRange},
		// What is no form is told first, however great the number.
		{nines + ".9", api.ErrForm}, {nines + ".999", api.ErrForm}, {nines, api.ErrForm}, {nines + ".9x", api.ErrForm},
	} {
		if v, e := decimal.TakeMoney(r.s); v != 0 || e != r.e {
			t.Errorf("P2.1: TakeMoney(%q): %d, error %d; want 0, %d", r.s, v, e, r.e)
		}
		checkMoney(t, r.s)
	}
}

func TestMoneyAtEdges(t *testing.T) {
	for _, v := range edges() {
		s := decimal.Money(v)
		if w := said(moneyForm, 2, s); w == nil || w.Cmp(big.NewInt(v)) != 0 {
			t.Errorf("P2.1: Money(%d): %q", v, s)
		}
		checkMoney(t, s)
	}
}

func TestTakeMoneyOfShortTexts(t *testing.T) {
	texts("-0159.%", 6, func(s string) { checkMoney(t, s) })
}

func TestRate(t *testing.T) {
	for _, r := range []struct {
		v int64
		s string
	}{
		{0, "0%"}, {1, "0.0000001%"}, {-1, "-0.0000001%"}, {10, "0.000001%"}, {1_000_000, "0.1%"},
		{-1_000_000, "-0.1%"}, {9_999_999, "0.9999999%"}, {10_000_000, "1%"}, {-10_000_000, "-1%"},
		{10_000_001, "1.0000001%"}, {52_500_000, "5.25%"}, {-52_500_000, "-5.25%"}, {100_000_000, "10%"},
		{100_100_000, "10.01%"}, {api.Unit, "100%"}, {-api.Unit, "-100%"},
		{10*api.Unit - 1, "999.9999999%"}, {10 * api.Unit, "1000%"}, {-10 * api.Unit, "-1000%"},
	} {
		if s := decimal.Rate(r.v); s != r.s {
			t.Errorf("P2.2: Rate(%d): %q; want %q", r.v, s, r.s)
		}
		if v, e := decimal.TakeRate(r.s); v != r.v || e != api.OK {
			t.Errorf("P2.2: TakeRate(%q): %d, error %d; want %d, 0", r.s, v, e, r.v)
		}
	}
}

// TestRateBeyondBounds: Rate writes whatever number there is; to take it back is refused.
func TestRateBeyondBounds(t *testing.T) {
	for _, r := range []struct {
		v int64
		s string
	}{
		{10*api.Unit + 1, "1000.0000001%"}, {-10*api.Unit - 1, "-1000.0000001%"},
		{20 * api.Unit, "2000%"}, {100 * api.Unit, "10000%"},
		{math.MaxInt64, "922337203685.4775807%"}, {math.MinInt64, "-922337203685.4775808%"},
	} {
		if s := decimal.Rate(r.v); s != r.s {
			t.Errorf("P2.2: Rate(%d): %q; want %q", r.v, s, r.s)
		}
		if v, e := decimal.TakeRate(r.s); v != 0 || e != api.ErrForm {
			t.Errorf("P2.2: TakeRate(%q): %d, error %d; want 0, 4", r.s, v, e)
		}
	}
}

func TestTakeRateRefuses(t *testing.T) {
	for _, s := range []string{
		"", "%", "-%", ".%", "-.%", "5", "-5", "5.25", "05%", "-05%", "00%", "-0%", "-0.0%", "0.0%", "5.%", "5.0%", "5.250%",
		".5%", "-.5%", "5.00000001%", "5.12345678%", "5.10000000%", "0.00000001%", "+5%", "--5%", "-+5%",
		" 5%", "5 %", "5% ", "5%%", "%5", "5%5", "5%\n", "5\x00%", "5,25%", "5.2.5%", "5..25%", "5.-2%", "5.2-%",
		"5.+2%", "5e1%", "0x5%", "5_0%", "5/%", "5:%", "5.:%", "5.2x%", "x%", "\u0665%", "5.\u0665%", "\xff%",
		"1000.0000001%", "-1000.0000001%", "1001%", "-1001%", "9999%", "9999.9999999%", "10000%", "-10000%",
		"99999999999999999999%",
		// In 64 bits these would go round to small numbers.
		"1844674407370.9551616%", "1844674407370.9551617%", "1844674407371%",
	} {
		if v, e := decimal.TakeRate(s); v != 0 || e != api.ErrForm {
			t.Errorf("P2.2: TakeRate(%q): %d, error %d; want 0, 4", s, v, e)
		}
		checkRate(t, s)
	}
}

func TestRateAtEdges(t *testing.T) {
	for _, v := range edges() {
		s := decimal.Rate(v)
		if w := said(rateForm, 7, s); w == nil || w.Cmp(big.NewInt(v)) != 0 {
			t.Errorf("P2.2: Rate(%d): %q", v, s)
		}
		checkRate(t, s)
	}
}

func TestTakeRateOfShortTexts(t *testing.T) {
	texts("-0159.%", 6, func(s string) { checkRate(t, s) })
}
