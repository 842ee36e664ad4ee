package growth_test

import (
	"math"
	"math/big"
	"math/rand"
	"sync"
	"testing"

	"quittance/api"
	"quittance/growth"
)

func TestNew(t *testing.T) {
	each(t, func(t *testing.T, p pair) {
		if rest := p.one.Rest(); rest != 0 {
			t.Errorf("P12.1: New(%d, %d): a rest of %d; want 0", p.count, p.round, rest)
		}
	})
	far := []int{math.MinInt, math.MinInt + 1, -3, -2, -1, 0, 1, 2, 3, 4, 5, 1 << 32, 1<<32 + 1, math.MaxInt}
	for _, count := range far {
		for _, round := range far {
			want := api.ErrArg
			if count >= api.Thirty && count <= api.Actual && (round == api.HalfUp || round == api.Down) {
				want = api.OK
			}
			if b, e := growth.New(count, round); e != want || (b == nil) != (e != api.OK) {
				t.Errorf("P12.1: New(%d, %d): nil is %t, error %d; want %d", count, round, b == nil, e, want)
			}
		}
	}
}

// step is what is told to a bearer, and what it is to answer.
type step struct{ balance, rate, parts, want, rest int64 }

// hold tells a new bearer the steps, one behind the other.
func hold(t *testing.T, count, round int, steps []step) {
	t.Helper()
	b, e := growth.New(count, round)
	if e != api.OK {
		t.Fatalf("P12.1: New(%d, %d): error %d; want 0", count, round, e)
	}
	for i, s := range steps {
		if v, e := b.Bear(s.balance, s.rate, s.parts); v != s.want || e != api.OK || b.Rest() != s.rest {
			t.Errorf("P12.1: count %d, round %d, the step %d: Bear(%d, %d, %d): %d, error %d, rest %d; want %d, 0, %d",
				count, round, i, s.balance, s.rate, s.parts, v, e, b.Rest(), s.want, s.rest)
		}
	}
}

func TestBear(t *testing.T) {
	const unit = api.Unit
	// The example of the chapter.
	hold(t, api.Fixed, api.HalfUp, []step{{365, unit, 1, 1, 0}})
	// 1000.00 at 5%: a month of thirty days each; 4.1666.. of them.
	month := int64(100_000 * 50_000_000 * 30)
	hold(t, api.Thirty, api.HalfUp, []step{
		{100_000, 50_000_000, 30, 417, month - 417*360*unit},
		{100_000, 50_000_000, 30, 416, 2*month - 833*360*unit},
		{100_000, 50_000_000, 30, 417, 0},
	})
	hold(t, api.Thirty, api.Down, []step{
		{100_000, 50_000_000, 30, 416, month - 416*360*unit},
		{100_000, 50_000_000, 30, 417, 2*month - 833*360*unit},
		{100_000, 50_000_000, 30, 417, 0},
	})
	// Of two as near the greater one: the rest is at its least then.
	hold(t, api.Thirty, api.HalfUp, []step{
		{180, unit, 1, 1, -180 * unit},
		{0, unit, 1, 0, -180 * unit},
		{1, 1, 1, 0, 1 - 180*unit},
		{180, unit, 2, 1, 1 - 180*unit},
	})
	hold(t, api.Thirty, api.HalfUp, []step{{179, unit, 1, 0, 179 * unit}, {1, unit - 1, 1, 0, 180*unit - 1}, {1, 1, 1, 1, -180 * unit}})
	hold(t, api.Thirty, api.Down, []step{{359, unit, 1, 0, 359 * unit}, {1, unit - 1, 1, 0, 360*unit - 1}, {1, 1, 1, 1, 0}})
	// A whole year of each count.
	hold(t, api.Thirty, api.Down, []step{{top, unit, 360, top, 0}, {12_345, unit, 360, 12_345, 0}})
	hold(t, api.Fixed, api.HalfUp, []step{{top, unit, 365, top, 0}, {1, unit, 366, 1, unit}})
	hold(t, api.Actual, api.HalfUp, []step{{top, unit, 133_590, top, 0}, {1, unit, 366 * 365, 1, 0}, {1, unit / 2, 133_590, 1, -66_795 * unit}})
	// What bears nothing leaves the rest alone.
	hold(t, api.Actual, api.Down, []step{{7, unit, 3, 0, 21 * unit}, {0, unit, 9, 0, 21 * unit}, {9, 0, 9, 0, 21 * unit}, {9, unit, 0, 0, 21 * unit}})
}

func TestBearRefused(t *testing.T) {
	each(t, func(t *testing.T, p pair) {
		p.carry(p.most() - 3)
		for _, r := range []struct {
			balance, rate, parts int64
			want                 api.Errno
		}{
			{0, 0, 0, api.OK},
			{top, 0, mostParts, api.OK},
			{0, api.Unit, mostParts, api.OK},
			{top, api.Unit, 0, api.OK},
			{-1, 0, 0, api.ErrArg},
			{top + 1, 0, 0, api.ErrArg},
			{0, -1, 0, api.ErrArg},
			{0, api.Unit + 1, 0, api.ErrArg},
			{0, 0, -1, api.ErrArg},
			{0, 0, mostParts + 1, api.ErrArg},
			{top, api.Unit, mostParts, api.ErrRange},
			// What may not be is refused ahead of what is too great.
			{top + 1, api.Unit, mostParts, api.ErrArg},
			{top, api.Unit + 1, mostParts, api.ErrArg},
			{top, api.Unit, mostParts + 1, api.ErrArg},
			// Two that are below 0 make no number above it.
			{-5, -5, 5, api.ErrArg},
			{5, -5, -5, api.ErrArg},
			{-5, 5, -5, api.ErrArg},
			// These products would go round to small numbers in 64 bits.
			{1, 1 << 32, 1 << 32, api.ErrArg},
			{1 << 32, 1, 1 << 32, api.ErrArg},
			{math.MaxInt64, math.MaxInt64, math.MaxInt64, api.ErrArg},
			{math.MinInt64, math.MinInt64, math.MinInt64, api.ErrArg},
			{math.MinInt64, 0, 0, api.ErrArg},
			{0, math.MinInt64, 0, api.ErrArg},
			{0, 0, math.MinInt64, api.ErrArg},
			{math.MaxInt64, 0, 0, api.ErrArg},
			{0, math.MaxInt64, 0, api.ErrArg},
			{0, 0, math.MaxInt64, api.ErrArg},
		} {
			if _, e := p.bear(r.balance, r.rate, r.parts); e != r.want || p.one.Rest() != p.most()-3 {
				t.Errorf("P12.1: count %d, round %d: Bear(%d, %d, %d): error %d, rest %d; want %d, %d",
					p.count, p.round, r.balance, r.rate, r.parts, e, p.one.Rest(), r.want, p.most()-3)
			}
		}
	})
}

func TestNilAndZero(t *testing.T) {
	var none *growth.Bearer
	for i, r := range [][3]int64{{1, 1, 1}, {0, 0, 0}, {-1, -1, -1}, {top, api.Unit, mostParts}, {math.MaxInt64, math.MinInt64, 0}} {
		if v, e := none.Bear(r[0], r[1], r[2]); v != 0 || e != api.ErrNil {
			t.Errorf("P12.1: Bear of nil, the row %d: %d, error %d; want 0, 2", i, v, e)
		}
		zero := new(growth.Bearer)
		if v, e := zero.Bear(r[0], r[1], r[2]); v != 0 || e != api.ErrArg || zero.Rest() != 0 {
			t.Errorf("R1: Bear of a zero bearer, the row %d: %d, error %d, rest %d; want 0, 1, 0", i, v, e, zero.Rest())
		}
	}
	if rest, f := none.Rest(), none.Fork(); rest != 0 || f != nil {
		t.Errorf("P12.1: of nil: a rest of %d, a fork that is nil: %t; want 0, true", rest, f == nil)
	}
	zero := new(growth.Bearer)
	f := zero.Fork()
	if f == nil || f == zero || f.Rest() != 0 {
		t.Errorf("P12.1: the fork of a zero bearer is not another one, alike")
	}
	if v, e := f.Bear(1, 1, 1); v != 0 || e != api.ErrArg {
		t.Errorf("R1: Bear of a zero bearer's fork: %d, error %d; want 0, 1", v, e)
	}
}

// TestRests has each rest about an edge be led to each sum about an edge.
func TestRests(t *testing.T) {
	each(t, func(t *testing.T, p pair) {
		whole, met := wholeOf(p.count), 0
		for _, rest := range near(p.least(), p.most(), 0, 1, whole/2-1, whole/3, -1, -whole/3, api.Unit) {
			if rest < p.least() || rest > p.most() {
				continue
			}
			for _, sum := range near(0, whole/2, whole-1, whole, 3*whole/2, 2*whole-1) {
				if sum < rest {
					continue
				}
				met++
				q := newPair(t, p.count, p.round)
				q.carry(rest)
				if got := q.one.Rest(); got != rest {
					t.Fatalf("P12.1: count %d, round %d: a rest of %d; want %d", q.count, q.round, got, rest)
				}
				q.bear(sum-rest, 1, 1)
			}
		}
		if met < 300 {
			t.Errorf("count %d, round %d: only %d sums were met", p.count, p.round, met)
		}
	})
}

// near is each of numbers, with those next to it.
func near(numbers ...int64) []int64 {
	var l []int64
	for _, n := range numbers {
		l = append(l, n-2, n-1, n, n+1, n+2)
	}
	return l
}

// aiming tells balance, rate and parts of which what is exact is, by the whole, as often as it is told and
// a little more: so much as is told last, in parts of the whole.
func aiming(whole int64, often *big.Int, rate, parts int64) (balance int64, more *big.Int) {
	goal := new(big.Int).Mul(often, big.NewInt(whole))
	factor := big.NewInt(rate * parts)
	b := new(big.Int).Add(goal, factor)
	b.Sub(b, big.NewInt(1)).Div(b, factor)
	return b.Int64(), goal.Sub(exact(b.Int64(), rate, parts), goal)
}

// TestRangeEdge leads bearers to the last part of what fits, and to the one behind it.
func TestRangeEdge(t *testing.T) {
	each(t, func(t *testing.T, p pair) {
		whole, met := wholeOf(p.count), 0
		for k := int64(1); k <= 400; k++ {
			rate, parts := api.Unit-k*1_001, whole/api.Unit+1+k%5
			balance, more := aiming(whole, big.NewInt(top), rate, parts)
			if balance > top || more.Cmp(big.NewInt(whole)) >= 0 {
				continue
			}
			// With this rest, and what is exact, the greatest number is met that MaxMoney is made of.
			rest := p.most() - more.Int64()
			if rest < p.least() || rest == p.most() {
				continue
			}
			met++
			last := p.most()
			for _, r := range []struct {
				rest  int64
				borne int64
				want  api.Errno
				left  int64
			}{{rest, top, api.OK, last}, {rest + 1, 0, api.ErrRange, rest + 1}, {p.least(), top, api.OK, last - rest + p.least()}} {
				q := newPair(t, p.count, p.round)
				q.carry(r.rest)
				v, e := q.bear(balance, rate, parts)
				if v != r.borne || e != r.want || q.one.Rest() != r.left {
					t.Errorf("P12.1: count %d, round %d, rest %d: Bear(%d, %d, %d): %d, error %d, rest %d; want %d, %d, %d",
						p.count, p.round, r.rest, balance, rate, parts, v, e, q.one.Rest(), r.borne, r.want, r.left)
				}
			}
		}
		if met < 20 {
			t.Errorf("count %d, round %d: only %d edges were met", p.count, p.round, met)
		}
	})
}

// TestJustAbove has what is exact be MaxMoney and 1, whole: no rest, not even the least, leads back.
func TestJustAbove(t *testing.T) {
	each(t, func(t *testing.T, p pair) {
		// MaxMoney and 1 is 100_001 times 9_999_900_001.
		year := wholeOf(p.count) / api.Unit
		balance, parts := int64(9_999_900_001*365), 100_001*year/365
		if year == 360 {
			balance, parts = 9_999_900_001*10, 100_001*36
		}
		for _, rest := range []int64{p.least(), p.least() + 1, 0, p.most()} {
			q := newPair(t, p.count, p.round)
			q.carry(rest)
			if v, e := q.bear(balance, api.Unit, parts); v != 0 || e != api.ErrRange || q.one.Rest() != rest {
				t.Errorf("P12.1: count %d, round %d, rest %d: %d, error %d, rest %d; want 0, 3, as ahead",
					p.count, p.round, rest, v, e, q.one.Rest())
			}
		}
	})
}

// TestGoingRound has numbers that words of 63, 64 and 128 bits would let go round to some that fit.
func TestGoingRound(t *testing.T) {
	met := 0
	each(t, func(t *testing.T, p pair) {
		for _, shift := range []uint{62, 63, 64, 65, 66} {
			for k := range int64(40) {
				often := new(big.Int).Lsh(big.NewInt(1), shift)
				often.Add(often, big.NewInt(k*k*k))
				rate, parts := api.Unit-k, mostParts-k*7
				balance, _ := aiming(wholeOf(p.count), often, rate, parts)
				if balance < 0 || balance > top {
					continue
				}
				for _, b := range []int64{balance - 1, balance, balance + 1} {
					met++
					if _, e := p.bear(b, rate, parts); e != api.ErrRange {
						t.Errorf("P12.1: count %d, round %d: Bear(%d, %d, %d): error %d; want 3", p.count, p.round, b, rate, parts, e)
					}
				}
			}
		}
	})
	if met < 1_000 {
		t.Errorf("only %d numbers were met", met)
	}
}

// size is a number from 0 to most, of any length.
func size(r *rand.Rand, most int64) int64 {
	switch r.Intn(8) {
	case 0:
		return most
	case 1:
		return 0
	}
	return r.Int63n(1+most) >> r.Intn(50)
}

// TestAnyNumbers tells bearers numbers of all lengths, again and again, and forks some on the way.
func TestAnyNumbers(t *testing.T) {
	r := rand.New(rand.NewSource(12))
	met := map[api.Errno]int{}
	below := 0
	each(t, func(t *testing.T, p pair) {
		for range 400 {
			q := newPair(t, p.count, p.round)
			others := []pair{q}
			for range 60 {
				q = others[r.Intn(len(others))]
				balance, rate, parts := size(r, top), size(r, api.Unit), size(r, mostParts)
				if r.Intn(40) == 0 {
					wrong := []*int64{&balance, &rate, &parts}[r.Intn(3)]
					*wrong = []int64{-1, -*wrong - 1, math.MinInt64, math.MaxInt64, top + 1 + *wrong}[r.Intn(5)]
				}
				_, e := q.bear(balance, rate, parts)
				met[e]++
				if q.one.Rest() < 0 {
					below++
				}
				if r.Intn(10) == 0 {
					others = append(others, q.fork())
				}
			}
			// What one was told plays no part in another.
			for i, o := range others {
				if o.one.Rest() != o.two.rest.Int64() {
					t.Fatalf("R2: the fork %d: a rest of %d; want %s", i, o.one.Rest(), o.two.rest)
				}
			}
		}
	})
	if met[api.OK] < 10_000 || met[api.ErrArg] < 1_000 || met[api.ErrRange] < 1_000 || below < 1_000 || len(met) != 3 {
		t.Errorf("too few of each kind: %v, %d rests below 0", met, below)
	}
}

// TestSplits has spans borne at once, and in pieces.
func TestSplits(t *testing.T) {
	r := rand.New(rand.NewSource(7))
	each(t, func(t *testing.T, p pair) {
		for range 300 {
			balance, rate := r.Int63n(top), r.Int63n(api.Unit)
			span := 1 + r.Int63n(wholeOf(p.count)/api.Unit)
			once := newPair(t, p.count, p.round)
			once.carry(p.least() + r.Int63n(wholeOf(p.count)))
			pieces := once.one.Fork()
			all, e := once.bear(balance, rate, span)
			if e != api.OK {
				t.Fatalf("P12.1: Bear(%d, %d, %d): error %d; want 0", balance, rate, span, e)
			}
			sum := int64(0)
			for left := span; left > 0; {
				piece := 1 + r.Int63n(left)
				v, e := pieces.Bear(balance, rate, piece)
				if e != api.OK {
					t.Fatalf("P12.1: Bear(%d, %d, %d): error %d; want 0", balance, rate, piece, e)
				}
				sum, left = sum+v, left-piece
			}
			if sum != all || pieces.Rest() != once.one.Rest() {
				t.Fatalf("P12.1: count %d, round %d: %d parts of %d at %d: in pieces %d, rest %d; at once %d, rest %d",
					p.count, p.round, span, balance, rate, sum, pieces.Rest(), all, once.one.Rest())
			}
		}
	})
}

func TestFork(t *testing.T) {
	each(t, func(t *testing.T, p pair) {
		p.bear(12_345, 67_890_123, 4)
		rest := p.one.Rest()
		if rest == 0 {
			t.Fatalf("P12.1: a rest of 0 shows nothing")
		}
		f := p.fork()
		if f.one == p.one || f.one.Rest() != rest {
			t.Errorf("P12.1: Fork: a rest of %d; want another bearer, of %d", f.one.Rest(), rest)
		}
		// Neither of the two hears of what the other one is told.
		f.bear(99_999, 11_111_111, 5)
		if got := p.one.Rest(); got != rest || f.one.Rest() == rest {
			t.Errorf("P12.1: Fork: the rest ahead is %d; want %d", got, rest)
		}
		left := f.one.Rest()
		p.bear(1, 1, 1)
		g := f.fork()
		g.bear(2, 3, 4)
		if got := f.one.Rest(); got != left {
			t.Errorf("P12.1: Fork: the fork's rest is %d; want %d", got, left)
		}
		// Alike: both go the same way, and count and round the same.
		a, b := p.fork(), p.fork()
		for k := range int64(50) {
			v, e := a.bear(k*1_234_567, k*7_654_321, k)
			w, f := b.bear(k*1_234_567, k*7_654_321, k)
			if v != w || e != f || a.one.Rest() != b.one.Rest() {
				t.Errorf("P12.1: two forks: %d, %d, error %d, %d", v, w, e, f)
			}
		}
	})
}

// TestAtOnce has many bearers told at once: each of them hangs on what it is told alone.
func TestAtOnce(t *testing.T) {
	const many = 16
	var group sync.WaitGroup
	var sums, rests [many]int64
	one, _ := growth.New(api.Actual, api.HalfUp)
	for i := range many {
		b := one.Fork()
		group.Go(func() {
			for k := range int64(2_000) {
				v, _ := b.Bear(k*9_999_991, k*333_331, k)
				sums[i] += v
			}
			rests[i] = b.Rest()
		})
	}
	group.Wait()
	for i := range many {
		if sums[i] != sums[0] || sums[i] == 0 || rests[i] != rests[0] || one.Rest() != 0 {
			t.Errorf("R2: the bearer %d: %d, rest %d; want %d, %d", i, sums[i], rests[i], sums[0], rests[0])
		}
	}
}
