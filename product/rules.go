package product

import (
	"slices"

	"quittance/api"
	"quittance/business"
)

// lastLateDay is the last of the days behind a due day that may have a fee.
const lastLateDay = 365

// terms are a product's, each group of them with the rule that it has to keep.
type terms api.Product

// rules are all that a product has to keep, one behind the other.
func (t *terms) rules() []func() bool {
	return []func() bool{
		t.name, t.choices, t.every, t.times, t.grace, t.rates, t.resets, t.order, t.late, t.cap, t.holidays,
	}
}

func (t *terms) name() bool {
	return Name(t.Name)
}

// choices are what is one of a few that lie side by side, but for Round, which may not be HalfEven.
func (t *terms) choices() bool {
	return lies(t.Count, api.Thirty, api.Actual) &&
		(t.Round == api.HalfUp || t.Round == api.Down) &&
		lies(t.Kind, api.Annuity, api.Bullet) &&
		lies(t.Over, api.HoldIt, api.Refund) &&
		lies(t.Roll, api.Stay, api.Previous)
}

func (t *terms) every() bool {
	switch t.Every {
	case 1, 2, 3, 4, 6, 12:
		return true
	}
	return false
}

func (t *terms) times() bool {
	return lies(t.Times, 1, api.MaxTimes)
}

func (t *terms) grace() bool {
	return t.Grace == 0 || t.Kind != api.Bullet && 0 < t.Grace && t.Grace < t.Times
}

func (t *terms) rates() bool {
	return rate(t.Rate) && rate(t.Penalty)
}

func (t *terms) resets() bool {
	if len(t.Resets) > api.MaxResets {
		return false
	}
	var ahead api.Reset
	for _, r := range t.Resets {
		if r.After <= ahead.After || r.After >= t.Times || !rate(r.Rate) {
			return false
		}
		ahead = r
	}
	return true
}

// order has as many places as there are kinds: each is there once, if none is missing.
func (t *terms) order() bool {
	for kind := api.Fees; kind <= api.Principal; kind++ {
		if !slices.Contains(t.Order[:], kind) {
			return false
		}
	}
	return true
}

func (t *terms) late() bool {
	if len(t.Late) > api.MaxTiers {
		return false
	}
	var ahead api.Tier
	for _, tier := range t.Late {
		if tier.Days <= ahead.Days || tier.Days > lastLateDay || !lies(tier.Fee, ahead.Fee, api.MaxLoan) {
			return false
		}
		ahead = tier
	}
	return true
}

func (t *terms) cap() bool {
	return t.Cap == 0 || len(t.Late) > 0 && lies(t.Cap, 0, api.MaxLoan)
}

func (t *terms) holidays() bool {
	if t.Roll == api.Stay {
		return len(t.Holidays) == 0
	}
	_, errno := business.New(t.Holidays)
	return errno == api.OK
}

// rate tells whether v may be a rate.
func rate(v int64) bool {
	return lies(v, 0, api.Unit)
}

// lies tells whether v is from low to high.
func lies[T byte | int | int64](v, low, high T) bool {
	return low <= v && v <= high
}
