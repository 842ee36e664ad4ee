package schedule

import (
	"quittance/api"
	"quittance/dues"
	"quittance/throw"
)

// planned is the lines of amount, or throws.
func planned(p *api.Product, start int, amount int64) []api.Line {
	days := throw.Sure(dues.Days(*p, start))
	throw.Need(amount > 0 && amount <= api.MaxLoan, api.ErrAmount)
	parts := throw.Sure(dues.Parts(*p, start))
	l := lent(p, parts, amount)
	lines := made(days, parts, l.line)
	// Only now: what growth refuses in any line counts ahead of what is too steep.
	throw.Need(p.Kind != api.Annuity || l.alike(lines), api.ErrSteep)
	return lines
}

// made is a line of each of days, as line makes them, in order.
func made(days []int, parts []int64, line func(n, day int, parts int64) api.Line) []api.Line {
	lines := make([]api.Line, len(days))
	for i, day := range days {
		lines[i] = line(i, day, parts[i])
	}
	return lines
}
