package schedule_test

// A second reading of chapter 14, in numbers without bounds: what is borne, from the first line on, is one
// sum that is rounded behind each line, so that no rest is carried here.

import (
	"math/big"
	"slices"
	"testing"

	"quittance/api"
	"quittance/dues"
	"quittance/level"
	"quittance/schedule"
)

// why is what became of a schedule.
type why int

const (
	days    why = iota // dues or product refused
	size               // no such amount
	fine               // there are lines
	spent              // there are lines, of an Annuity that is paid back ahead of the last one
	taking             // a principal part below 0
	unalike            // the last one is too far off
	both               // both of these
)

// wholeOf is Unit times the parts of a year.
func wholeOf(count int) int64 {
	switch count {
	case api.Thirty:
		return 360 * api.Unit
	case api.Fixed:
		return 365 * api.Unit
	}
	return 365 * 366 * api.Unit
}

// rounded is n by whole: of HalfUp the greatest number that is not above it and a half.
func rounded(n *big.Int, whole int64, round int) int64 {
	up := new(big.Int).Lsh(n, 1)
	if round == api.HalfUp {
		up.Add(up, big.NewInt(whole))
	}
	return up.Div(up, big.NewInt(2*whole)).Int64()
}

// interests tells of each line, asked for in order with what is left ahead of it, what it bears.
func interests(p api.Product, parts []int64) func(i int, ahead int64) int64 {
	all, told := new(big.Int), int64(0)
	return func(i int, ahead int64) int64 {
		exact := big.NewInt(ahead)
		exact.Mul(exact, big.NewInt(p.Rate))
		exact.Mul(exact, big.NewInt(parts[i]))
		all.Add(all, exact)
		borne := rounded(all, wholeOf(p.Count), p.Round) - told
		told += borne
		return borne
	}
}

// second is what Of is to answer, and why.
func second(p api.Product, start int, amount int64) ([]api.Line, api.Errno, why) {
	due, errno := dues.Days(p, start)
	if errno != api.OK {
		return nil, errno, days
	}
	if amount <= 0 || amount > 10_000_000_000_000 {
		return nil, api.ErrAmount, size
	}
	parts, _ := dues.Parts(p, start)
	instalment := int64(0)
	if p.Kind == api.Annuity {
		if instalment, errno = level.Of(p, parts, amount); errno != api.OK {
			return nil, errno, days
		}
	}
	lines, left := make([]api.Line, p.Times), amount
	borne := interests(p, parts)
	for i := range lines {
		interest := borne(i, left)
		part := map[int]int64{
			api.Annuity: instalment - interest,
			api.Equal:   amount / int64(p.Times-p.Grace),
			api.Bullet:  0,
		}[p.Kind]
		if part > left || i+1 == p.Times {
			part = left
		}
		if i < p.Grace {
			part = 0
		}
		left -= part
		lines[i] = api.Line{Day: due[i], Principal: part, Interest: interest, Left: left}
	}
	if p.Kind == api.Annuity {
		return judged(lines, instalment)
	}
	return lines, api.OK, fine
}

// judged is P14.2.
func judged(lines []api.Line, instalment int64) ([]api.Line, api.Errno, why) {
	last := lines[len(lines)-1]
	off := last.Principal + last.Interest - instalment
	takes := slices.ContainsFunc(lines, func(l api.Line) bool { return l.Principal < 0 })
	differs := max(off, -off) > int64(len(lines))
	switch {
	case takes && differs:
		return nil, api.ErrSteep, both
	case takes:
		return nil, api.ErrSteep, taking
	case differs:
		return nil, api.ErrSteep, unalike
	case last.Principal == 0:
		return lines, api.OK, spent
	}
	return lines, api.OK, fine
}

// of holds Of against the second reading, and against what follows; it is what Of answers.
func of(t *testing.T, p api.Product, start int, amount int64) ([]api.Line, api.Errno, why) {
	t.Helper()
	want, wantErrno, how := second(p, start, amount)
	got, e := schedule.Of(p, start, amount)
	if e != wantErrno || !slices.Equal(got, want) {
		t.Errorf("P14.1, P14.2: Of(%+v, %d, %d): %v, error %d; want %v, %d", p, start, amount, got, e, want, wantErrno)
	}
	if e == api.OK {
		follows(t, got, amount)
	}
	return got, e, how
}

// follows holds lines against what follows: all principal parts are the amount, and nothing is left.
func follows(t *testing.T, lines []api.Line, amount int64) {
	t.Helper()
	left := amount
	for i, l := range lines {
		left -= l.Principal
		if l.Left != left || l.Principal < 0 || l.Interest < 0 || l.Left < 0 {
			t.Errorf("P14.1: the line %d: %+v; want %d to be left", i, l, left)
		}
	}
	if left != 0 {
		t.Errorf("P14.1: %d are left behind the last line of %d", left, len(lines))
	}
}
