package level

import (
	"quittance/api"
	"quittance/growth"
	"quittance/product"
	"quittance/throw"
)

const (
	mostParts = 133_590 * 2      // of a year, of one instalment
	above     = api.MaxMoney + 1 // what is left, wherever it would be more than MaxMoney
)

// loan is what each walk begins with.
type loan struct {
	product *api.Product
	parts   []int64
	amount  int64
}

// lent is the loan of amount, or throws what may not be.
func lent(p *api.Product, parts []int64, amount int64) *loan {
	errno := product.Check(*p)
	throw.Need(errno == api.OK, errno)
	throw.Need(len(parts) == p.Times, api.ErrArg)
	for _, n := range parts {
		throw.Need(upTo(n, mostParts), api.ErrArg)
	}
	throw.Need(amount > 0 && amount <= api.MaxLoan, api.ErrArg)
	return &loan{p, parts, amount}
}

// upTo tells whether v is from 0 to most.
func upTo(v, most int64) bool {
	return 0 <= v && v <= most
}

// left walks with instalment, and is the balance at the walk's end, or behind the last part.
func (l *loan) left(instalment int64) int64 {
	bearer := throw.Sure(growth.New(l.product.Count, l.product.Round))
	balance := l.amount
	for i, parts := range l.parts {
		borne, errno := bearer.Bear(balance, l.product.Rate, parts)
		// All that is told to the bearer may be: it refuses what is too great alone.
		if errno != api.OK {
			return above
		}
		if i < l.product.Grace {
			continue
		}
		balance += borne - instalment
		if balance <= 0 || balance > api.MaxMoney {
			return min(balance, above)
		}
	}
	return balance
}
