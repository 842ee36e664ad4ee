package level_test

// A second reading of chapter 13, in numbers without bounds: what is borne, from the first part on, is one
// sum that is rounded behind each part, so that no rest is carried here.

import (
	"math/big"
	"testing"

	"quittance/api"
	"quittance/level"
	"quittance/product"
)

const (
	top       = api.MaxMoney
	mostParts = 267_180 // 133,590 times 2
)

// end is how a walk went out.
type end int

const (
	none    end = iota // there was no walk
	behind             // the balance behind the last part
	early              // a balance of 0, or below, ahead of the last part
	late               // a balance of 0, or below, behind the last part
	over               // a balance above MaxMoney
	refused            // growth.Bear told ErrRange
	grace              // growth.Bear told ErrRange in the Grace
)

// wholeOf is Unit times the parts of a year.
func wholeOf(count int) int64 {
	switch count {
	case api.Thirty:
		return 360 * api.Unit
	case api.Fixed:
		return 365 * api.Unit
	}
	return 365 * 366 * api.Unit
}

// rounded is n by whole: of HalfUp the greatest number that is not above it and a half.
func rounded(n *big.Int, whole int64, round int) int64 {
	up := new(big.Int).Lsh(n, 1)
	if round == api.HalfUp {
		up.Add(up, big.NewInt(whole))
	}
	return up.Div(up, big.NewInt(2*whole)).Int64()
}

// second is what Left is to answer, and how the walk went out.
func second(p api.Product, parts []int64, amount, instalment int64) (int64, api.Errno, end) {
	if errno := allowed(p, parts, amount); errno != api.OK {
		return 0, errno, none
	}
	if instalment < 0 || instalment > top {
		return 0, api.ErrArg, none
	}
	whole := wholeOf(p.Count)
	sum, told, balance := new(big.Int), int64(0), amount
	for i, n := range parts {
		exact := big.NewInt(balance)
		exact.Mul(exact, big.NewInt(p.Rate)).Mul(exact, big.NewInt(n))
		sum.Add(sum, exact)
		ahead := told
		told = rounded(sum, whole, p.Round)
		switch borne := told - ahead; {
		case borne > top && i < p.Grace:
			return top + 1, api.OK, grace
		case borne > top:
			return top + 1, api.OK, refused
		case i >= p.Grace:
			balance = balance + borne - instalment
		}
		switch {
		case balance > top:
			return top + 1, api.OK, over
		case balance <= 0 && i < len(parts)-1:
			return balance, api.OK, early
		case balance <= 0:
			return balance, api.OK, late
		}
	}
	return balance, api.OK, behind
}

// allowed is what Left and Of are to refuse alike.
func allowed(p api.Product, parts []int64, amount int64) api.Errno {
	if errno := product.Check(p); errno != api.OK {
		return errno
	}
	if len(parts) != p.Times || amount <= 0 || amount > 10_000_000_000_000 {
		return api.ErrArg
	}
	for _, n := range parts {
		if n < 0 || n > mostParts {
			return api.ErrArg
		}
	}
	return api.OK
}

// left holds Left against the second reading, and is what it answers.
func left(t *testing.T, p api.Product, parts []int64, amount, instalment int64) (int64, end) {
	t.Helper()
	want, wantErrno, how := second(p, parts, amount, instalment)
	v, e := level.Left(p, parts, amount, instalment)
	if v != want || e != wantErrno {
		t.Errorf("P13.1: Left(%+v, %v, %d, %d): %d, error %d; want %d, %d", p, parts, amount, instalment, v, e, want, wantErrno)
	}
	return v, how
}

// of holds Of against the second reading: it leaves nothing, and one less leaves something. It is what Of
// answers.
func of(t *testing.T, p api.Product, parts []int64, amount int64) (int64, api.Errno) {
	t.Helper()
	v, e := level.Of(p, parts, amount)
	want := allowed(p, parts, amount)
	if want == api.OK {
		if rest, _, _ := second(p, parts, amount, top); rest > 0 {
			want = api.ErrSteep
		}
	}
	if e != want || e != api.OK && v != 0 {
		t.Errorf("P13.1: Of(%+v, %v, %d): %d, error %d; want the error %d", p, parts, amount, v, e, want)
		return v, e
	}
	if e != api.OK {
		return v, e
	}
	rest, _, _ := second(p, parts, amount, v)
	less, _, _ := second(p, parts, amount, v-1)
	if v < 1 || v > top || rest > 0 || less <= 0 {
		t.Errorf("P13.1: Of(%+v, %v, %d): %d, which leaves %d; one less leaves %d", p, parts, amount, v, rest, less)
	}
	return v, e
}
