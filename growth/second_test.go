package growth_test

// A second reading of chapter 12, in numbers without bounds: a rest is a fraction here, and is rounded by
// the words of the promise.

import (
	"math/big"
	"testing"

	"quittance/api"
	"quittance/growth"
)

const (
	top       = api.MaxMoney
	mostParts = 133_590 * 400
)

var (
	counts = []int{api.Thirty, api.Fixed, api.Actual}
	rounds = []int{api.HalfUp, api.Down}
)

// wholeOf is Unit times the parts of a year.
func wholeOf(count int) int64 {
	switch count {
	case api.Thirty:
		return 360 * api.Unit
	case api.Fixed:
		return 365 * api.Unit
	}
	return 365 * 366 * api.Unit
}

// second is a bearer as the words have it.
type second struct {
	round       int
	whole, rest *big.Int
}

func newSecond(count, round int) *second {
	return &second{round, big.NewInt(wholeOf(count)), new(big.Int)}
}

func (s *second) fork() *second {
	return &second{s.round, s.whole, new(big.Int).Set(s.rest)}
}

// exact is balance times rate times parts.
func exact(balance, rate, parts int64) *big.Int {
	n := new(big.Int).Mul(big.NewInt(balance), big.NewInt(rate))
	return n.Mul(n, big.NewInt(parts))
}

// rounded is n by the whole: of HalfUp the greatest number that is not above it and a half.
func (s *second) rounded(n *big.Int) *big.Int {
	up := new(big.Int).Lsh(n, 1)
	if s.round == api.HalfUp {
		up.Add(up, s.whole)
	}
	return up.Div(up, new(big.Int).Lsh(s.whole, 1))
}

func (s *second) bear(balance, rate, parts int64) (int64, api.Errno) {
	if balance < 0 || balance > top || rate < 0 || rate > api.Unit || parts < 0 || parts > mostParts {
		return 0, api.ErrArg
	}
	n := exact(balance, rate, parts)
	n.Add(n, s.rest)
	v := s.rounded(n)
	if v.CmpAbs(big.NewInt(top)) > 0 {
		return 0, api.ErrRange
	}
	s.rest = n.Sub(n, new(big.Int).Mul(v, s.whole))
	return v.Int64(), api.OK
}

// pair is a bearer of the program, and the second one, that are told the same.
type pair struct {
	t            *testing.T
	count, round int
	one          *growth.Bearer
	two          *second
}

func newPair(t *testing.T, count, round int) pair {
	t.Helper()
	b, e := growth.New(count, round)
	if b == nil || e != api.OK {
		t.Fatalf("P12.1: New(%d, %d): error %d; want 0", count, round, e)
	}
	return pair{t, count, round, b, newSecond(count, round)}
}

// fork is another pair, that begins where p is.
func (p pair) fork() pair {
	return pair{p.t, p.count, p.round, p.one.Fork(), p.two.fork()}
}

// bear has both bear, and holds what they answer, and their rests, against each other.
func (p pair) bear(balance, rate, parts int64) (int64, api.Errno) {
	p.t.Helper()
	ahead := p.one.Rest()
	want, wantErrno := p.two.bear(balance, rate, parts)
	v, e := p.one.Bear(balance, rate, parts)
	if v != want || e != wantErrno || p.one.Rest() != p.two.rest.Int64() {
		p.t.Fatalf("P12.1: count %d, round %d, rest %d: Bear(%d, %d, %d): %d, error %d, rest %d; want %d, %d, %s",
			p.count, p.round, ahead, balance, rate, parts, v, e, p.one.Rest(), want, wantErrno, p.two.rest)
	}
	return v, e
}

// carry leads a pair with a rest of 0 to another rest.
func (p pair) carry(rest int64) {
	p.t.Helper()
	if rest < 0 {
		rest += wholeOf(p.count)
	}
	p.bear(rest, 1, 1)
}

// each has a pair of every count and round, with a rest of 0.
func each(t *testing.T, do func(t *testing.T, p pair)) {
	for _, count := range counts {
		for _, round := range rounds {
			do(t, newPair(t, count, round))
		}
	}
}

// least and most are the ends of the rests that p may carry.
func (p pair) least() int64 {
	if p.round == api.HalfUp {
		return -wholeOf(p.count) / 2
	}
	return 0
}

func (p pair) most() int64 {
	return p.least() + wholeOf(p.count) - 1
}
