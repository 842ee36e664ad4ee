package schedule

import (
	"quittance/api"
	"quittance/growth"
	"quittance/level"
	"quittance/throw"
)

// loan is what lines are made of, one behind the other.
type loan struct {
	product *api.Product
	bearer  *growth.Bearer
	usual   int64 // of an Annuity the instalment, of an Equal the principal part
	left    int64 // ahead of the next line
}

// lent is the loan of amount ahead of its first line, or throws what level refused with.
func lent(p *api.Product, parts []int64, amount int64) *loan {
	bearer := throw.Sure(growth.New(p.Count, p.Round))
	return &loan{p, bearer, usual(p, parts, amount), amount}
}

// usual is what all instalments but the last one, and those of the Grace, have in common.
func usual(p *api.Product, parts []int64, amount int64) int64 {
	switch p.Kind {
	case api.Annuity:
		return throw.Sure(level.Of(*p, parts, amount))
	case api.Equal:
		return amount / int64(p.Times-p.Grace)
	}
	return 0
}

// line is that of the instalment n, counted from 0 on; what is left is less by its principal part.
func (l *loan) line(n, day int, parts int64) api.Line {
	interest := throw.Sure(l.bearer.Bear(l.left, l.product.Rate, parts))
	principal := l.principal(n, interest)
	l.left -= principal
	return api.Line{Day: day, Principal: principal, Interest: interest, Left: l.left}
}

// principal is how much of what is left the instalment n pays back.
func (l *loan) principal(n int, interest int64) int64 {
	switch {
	case n < l.product.Grace:
		return 0
	case n == l.product.Times-1:
		return l.left
	case l.product.Kind == api.Annuity:
		return min(l.usual-interest, l.left)
	}
	return l.usual
}

// alike tells whether lines may be those of an Annuity: none takes something out again, and the last one
// is but a little off the instalment.
func (l *loan) alike(lines []api.Line) bool {
	for _, line := range lines {
		if line.Principal < 0 {
			return false
		}
	}
	last, most := lines[len(lines)-1], int64(l.product.Times)
	off := last.Principal + last.Interest - l.usual
	return -most <= off && off <= most
}
