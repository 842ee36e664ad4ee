package printer

import (
	"strconv"

	"quittance/api"
	"quittance/civil"
	"quittance/decimal"
)

// The words that a clause chooses from, each at the number that it stands for. At the others there is none:
// product.Check lets no product have them.
var (
	counts = [...]string{api.Thirty: "thirty", api.Fixed: "fixed", api.Actual: "actual"}
	rounds = [...]string{api.HalfUp: "half-up", api.Down: "down"}
	kinds  = [...]string{api.Annuity: "annuity", api.Equal: "equal", api.Bullet: "bullet"}
	owed   = [...]string{api.Fees: "fees", api.Penalty: "penalty", api.Interest: "interest", api.Principal: "principal"}
	overs  = [...]string{api.HoldIt: "hold", api.Prepay: "prepay", api.Refund: "refund"}
	rolls  = [...]string{api.Stay: "stay", api.Next: "next", api.Within: "within", api.Previous: "previous"}
)

// clauses write a line each (of a list, a line for each element), in the order in which they stand in a text.
func (w *writer) clauses() []func() {
	return []func(){
		w.count, w.round, w.kind, w.every, w.times, w.grace, w.rate, w.penalty, w.resets, w.order, w.over, w.late, w.cap,
		w.roll, w.holidays,
	}
}

func (w *writer) count() {
	w.line("count", counts[w.product.Count])
}

func (w *writer) round() {
	w.line("round", rounds[w.product.Round])
}

func (w *writer) kind() {
	w.line("kind", kinds[w.product.Kind])
}

func (w *writer) every() {
	w.line("every", strconv.Itoa(w.product.Every))
}

func (w *writer) times() {
	w.line("times", strconv.Itoa(w.product.Times))
}

func (w *writer) grace() {
	w.line("grace", strconv.Itoa(w.product.Grace))
}

func (w *writer) rate() {
	w.line("rate", decimal.Rate(w.product.Rate))
}

func (w *writer) penalty() {
	w.line("penalty", decimal.Rate(w.product.Penalty))
}

func (w *writer) resets() {
	for _, r := range w.product.Resets {
		w.line("reset", strconv.Itoa(r.After), decimal.Rate(r.Rate))
	}
}

func (w *writer) order() {
	o := w.product.Order
	w.line("order", owed[o[0]], owed[o[1]], owed[o[2]], owed[o[3]])
}

func (w *writer) over() {
	w.line("over", overs[w.product.Over])
}

func (w *writer) late() {
	for _, tier := range w.product.Late {
		w.line("late", strconv.Itoa(tier.Days), decimal.Money(tier.Fee))
	}
}

func (w *writer) cap() {
	w.line("cap", decimal.Money(w.product.Cap))
}

func (w *writer) roll() {
	w.line("roll", rolls[w.product.Roll])
}

func (w *writer) holidays() {
	for _, day := range w.product.Holidays {
		// A day that may be a holiday has a date.
		date, _ := civil.Text(day)
		w.line("holiday", date)
	}
}
