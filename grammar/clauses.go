package grammar

import (
	"slices"
	"strconv"

	"quittance/api"
	"quittance/civil"
	"quittance/decimal"
)

// mostNumber is the greatest number of nine digits.
const mostNumber = 999_999_999

// clause is what a word begins. A clause that is not often may stand but once.
type clause struct {
	word        string
	must, often bool
	read        func() // what stands between the word and the ;
	told        bool
}

// option is a word that a clause may choose, and what it stands for.
type option struct {
	word  string
	value int
}

// known are all clauses that there are.
func (r *reader) known() []clause {
	return []clause{
		{word: "count", must: true, read: r.count},
		{word: "round", must: true, read: r.round},
		{word: "kind", must: true, read: r.kind},
		{word: "every", must: true, read: r.every},
		{word: "times", must: true, read: r.times},
		{word: "grace", read: r.grace},
		{word: "rate", must: true, read: r.rate},
		{word: "penalty", read: r.penalty},
		{word: "reset", often: true, read: r.reset},
		{word: "late", often: true, read: r.late},
		{word: "cap", read: r.cap},
		{word: "holiday", often: true, read: r.holiday},
		{word: "order", must: true, read: r.order},
		{word: "over", read: r.over},
		{word: "roll", read: r.roll},
	}
}

func (r *reader) count() {
	r.product.Count = r.choose(option{"thirty", api.Thirty}, option{"fixed", api.Fixed}, option{"actual", api.Actual})
}

func (r *reader) round() {
	r.product.Round = r.choose(option{"half-up", api.HalfUp}, option{"down", api.Down})
}

func (r *reader) kind() {
	r.product.Kind = r.choose(option{"annuity", api.Annuity}, option{"equal", api.Equal}, option{"bullet", api.Bullet})
}

func (r *reader) every() {
	r.product.Every = read(r, number)
}

func (r *reader) times() {
	r.product.Times = read(r, number)
}

func (r *reader) grace() {
	r.product.Grace = read(r, number)
}

func (r *reader) rate() {
	r.product.Rate = read(r, decimal.TakeRate)
}

func (r *reader) penalty() {
	r.product.Penalty = read(r, decimal.TakeRate)
}

func (r *reader) reset() {
	after := read(r, number)
	r.product.Resets = append(r.product.Resets, api.Reset{After: after, Rate: read(r, decimal.TakeRate)})
}

func (r *reader) late() {
	days := read(r, number)
	r.product.Late = append(r.product.Late, api.Tier{Days: days, Fee: read(r, decimal.TakeMoney)})
}

func (r *reader) cap() {
	r.product.Cap = read(r, decimal.TakeMoney)
}

func (r *reader) holiday() {
	r.product.Holidays = append(r.product.Holidays, read(r, civil.Take))
}

// order reads each kind once: what is chosen is no longer among what may be.
func (r *reader) order() {
	left := []option{{"fees", api.Fees}, {"penalty", api.Penalty}, {"interest", api.Interest}, {"principal", api.Principal}}
	for i := range r.product.Order {
		kind := r.choose(left...)
		r.product.Order[i] = kind
		left = slices.DeleteFunc(left, func(o option) bool { return o.value == kind })
	}
}

func (r *reader) over() {
	r.product.Over = r.choose(option{"hold", api.HoldIt}, option{"prepay", api.Prepay}, option{"refund", api.Refund})
}

func (r *reader) roll() {
	r.product.Roll = r.choose(option{"stay", api.Stay}, option{"next", api.Next}, option{"within", api.Within}, option{"previous", api.Previous})
}

// choose is what the next sign stands for, which is the word of one of these.
func (r *reader) choose(options ...option) int {
	token := r.take()
	i := slices.IndexFunc(options, func(o option) bool { return o.word == token.Text })
	need(i >= 0, token)
	return options[i].value
}

// read is what taker takes the next sign for. Why it refuses a sign is nothing to a text: the sign may not
// stand there.
func read[T any](r *reader, taker func(string) (T, api.Errno)) T {
	token := r.take()
	v, errno := taker(token.Text)
	need(errno == api.OK, token)
	return v
}

// number is that of which s is the text: at most nine digits, without noughts ahead.
func number(s string) (int, api.Errno) {
	v, err := strconv.Atoi(s)
	// Written again it is the same: so there was neither a nought nor a hyphen too much.
	if err != nil || v < 0 || v > mostNumber || strconv.Itoa(v) != s {
		return 0, api.ErrForm
	}
	return v, api.OK
}
