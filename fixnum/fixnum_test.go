package fixnum_test

import (
	"math"
	"math/big"
	"testing"

	"quittance/api"
	"quittance/fixnum"
)

const top = api.MaxMoney

// edges are numbers at which a sum, a product or a quotient might go wrong.
func edges() []int64 {
	l := []int64{0, math.MinInt64}
	for _, v := range []int64{1, 2, 3, 4, 5, 7, 10, 365, api.Unit, 133_590_000_000_000, top / 2, top/2 + 1,
		top - 1, top, top + 1, 2*top - 1, 2 * top, 2*top + 1, 1 << 31, 1 << 32, 3_037_000_500,
		1 << 62, 1<<62 + 1, math.MaxInt64 - 1, math.MaxInt64} {
		l = append(l, v, -v)
	}
	return l
}

// modes are the ways of rounding, each with what rounds so.
func modes(t *testing.T) map[int]fixnum.Round {
	t.Helper()
	all := map[int]fixnum.Round{}
	for _, mode := range []int{api.HalfUp, api.HalfEven, api.Down} {
		r, e := fixnum.Of(mode)
		if e != api.OK {
			t.Fatalf("P1.2: Of(%d): error %d; want 0", mode, e)
		}
		all[mode] = r
	}
	return all
}

// held is what a call answers of a number without bounds: it, or ErrRange.
func held(v *big.Int) (int64, api.Errno) {
	if v.CmpAbs(big.NewInt(top)) > 0 {
		return 0, api.ErrRange
	}
	return v.Int64(), api.OK
}

func fits(v int64) bool { return big.NewInt(v).CmpAbs(big.NewInt(top)) <= 0 }

// rounded is a times b, by d (above 0), as the words of P1.2 have it, in numbers without bounds.
func rounded(mode int, a, b, d int64) *big.Int {
	n := new(big.Int).Mul(big.NewInt(a), big.NewInt(b))
	floor, rest := new(big.Int).DivMod(n, big.NewInt(d), new(big.Int))
	half := rest.Lsh(rest, 1).Cmp(big.NewInt(d))
	up := half > 0 || half == 0 && (mode == api.HalfUp || floor.Bit(0) == 1)
	if up && mode != api.Down {
		floor.Add(floor, big.NewInt(1))
	}
	return floor
}

func TestFits(t *testing.T) {
	for _, v := range []int64{0, 1, -1, top, -top} {
		if !fixnum.Fits(v) {
			t.Errorf("P1.1: Fits(%d): false; want true", v)
		}
	}
	for _, v := range []int64{top + 1, -top - 1, 1 << 62, math.MaxInt64, math.MinInt64} {
		if fixnum.Fits(v) {
			t.Errorf("P1.1: Fits(%d): true; want false", v)
		}
	}
}

func TestPlus(t *testing.T) {
	for _, r := range []struct {
		a, b, want int64
		e          api.Errno
	}{
		{2, 3, 5, api.OK},
		{-2, -3, -5, api.OK},
		{7, -7, 0, api.OK},
		{top, 0, top, api.OK},
		{top - 1, 1, top, api.OK},
		{top, -top, 0, api.OK},
		{1 - top, -1, -top, api.OK},
		{top, 1, 0, api.ErrRange},
		{-top, -1, 0, api.ErrRange},
		{top + 1, -1, 0, api.ErrRange},
		{-1, top + 1, 0, api.ErrRange},
		{1, -top - 1, 0, api.ErrRange},
		{math.MaxInt64, math.MaxInt64, 0, api.ErrRange},
		{math.MaxInt64, math.MinInt64, 0, api.ErrRange},
		{math.MinInt64, math.MinInt64, 0, api.ErrRange},
	} {
		if v, e := fixnum.Plus(r.a, r.b); v != r.want || e != r.e {
			t.Errorf("P1.1: Plus(%d, %d): %d, error %d; want %d, %d", r.a, r.b, v, e, r.want, r.e)
		}
	}
}

func TestPlusAtEdges(t *testing.T) {
	for _, a := range edges() {
		for _, b := range edges() {
			want, wantErrno := held(new(big.Int).Add(big.NewInt(a), big.NewInt(b)))
			if !fits(a) || !fits(b) {
				want, wantErrno = 0, api.ErrRange
			}
			if v, e := fixnum.Plus(a, b); v != want || e != wantErrno {
				t.Errorf("P1.1: Plus(%d, %d): %d, error %d; want %d, %d", a, b, v, e, want, wantErrno)
			}
		}
	}
}

func TestTimes(t *testing.T) {
	for _, r := range []struct {
		v    int64
		n    int
		want int64
		e    api.Errno
	}{
		{12, 12, 144, api.OK},
		{-12, 12, -144, api.OK},
		{12, -12, -144, api.OK},
		{-12, -12, 144, api.OK},
		{0, math.MinInt, 0, api.OK},
		{0, math.MaxInt, 0, api.OK},
		{top, 0, 0, api.OK},
		{top, -1, -top, api.OK},
		{top / 5, 5, top, api.OK},
		{1, top, top, api.OK},
		{1, top + 1, 0, api.ErrRange},
		{-1, top + 1, 0, api.ErrRange},
		{top/5 + 1, 5, 0, api.ErrRange},
		{top + 1, 0, 0, api.ErrRange},
		{-top - 1, 0, 0, api.ErrRange},
		{math.MinInt64, -1, 0, api.ErrRange},
		{-1, math.MinInt, 0, api.ErrRange},
		// These products would go round to small numbers in 64 bits.
		{1 << 32, 1 << 32, 0, api.ErrRange},
		{1 << 40, 1<<24 + 1, 0, api.ErrRange},
	} {
		if v, e := fixnum.Times(r.v, r.n); v != r.want || e != r.e {
			t.Errorf("P1.1: Times(%d, %d): %d, error %d; want %d, %d", r.v, r.n, v, e, r.want, r.e)
		}
	}
}

func TestTimesAtEdges(t *testing.T) {
	for _, v := range edges() {
		for _, n := range edges() {
			want, wantErrno := held(new(big.Int).Mul(big.NewInt(v), big.NewInt(n)))
			if !fits(v) {
				want, wantErrno = 0, api.ErrRange
			}
			if p, e := fixnum.Times(v, int(n)); p != want || e != wantErrno {
				t.Errorf("P1.1: Times(%d, %d): %d, error %d; want %d, %d", v, n, p, e, want, wantErrno)
			}
		}
	}
}

func TestOf(t *testing.T) {
	for mode, r := range modes(t) {
		if r == (fixnum.Round{}) {
			t.Errorf("P1.2: Of(%d) is the zero Round", mode)
		}
	}
	for _, mode := range []int{0, -1, 4, -api.HalfUp, math.MinInt, math.MaxInt} {
		if r, e := fixnum.Of(mode); r != (fixnum.Round{}) || e != api.ErrArg {
			t.Errorf("P1.2: Of(%d): %v, error %d; want the zero Round, 1", mode, r, e)
		}
	}
}

func TestZeroRound(t *testing.T) {
	var none fixnum.Round
	for _, d := range []int64{1, 2, 0, -1, math.MaxInt64} {
		if v, e := none.Divide(4, d); v != 0 || e != api.ErrArg {
			t.Errorf("P1.2: Divide(4, %d) of the zero Round: %d, error %d; want 0, 1", d, v, e)
		}
		if v, e := none.Ratio(top, top, d); v != 0 || e != api.ErrArg {
			t.Errorf("P1.2: Ratio by %d of the zero Round: %d, error %d; want 0, 1", d, v, e)
		}
	}
}

func TestDivide(t *testing.T) {
	all := modes(t)
	for _, r := range []struct{ n, d, up, even, down int64 }{
		{10, 5, 2, 2, 2},
		{10, 4, 3, 2, 2},
		{14, 4, 4, 4, 3},
		{-10, 4, -2, -2, -3},
		{-14, 4, -3, -4, -4},
		{-1, 2, 0, 0, -1},
		{1, 2, 1, 0, 0},
		{3, 2, 2, 2, 1},
		{4, 3, 1, 1, 1},
		{5, 3, 2, 2, 1},
		{-4, 3, -1, -1, -2},
		{-5, 3, -2, -2, -2},
		{0, 9, 0, 0, 0},
		{top, 1, top, top, top},
		{-top, 1, -top, -top, -top},
		{1<<62 - 1, math.MaxInt64, 0, 0, 0},
		{1 << 62, math.MaxInt64, 1, 1, 0},
		{-1 << 62, math.MaxInt64, -1, -1, -1},
		{math.MinInt64, math.MaxInt64, -1, -1, -2},
	} {
		for mode, want := range map[int]int64{api.HalfUp: r.up, api.HalfEven: r.even, api.Down: r.down} {
			if v, e := all[mode].Divide(r.n, r.d); v != want || e != api.OK {
				t.Errorf("P1.2: mode %d: Divide(%d, %d): %d, error %d; want %d, 0", mode, r.n, r.d, v, e, want)
			}
		}
	}
}

func TestDivideOutOfBounds(t *testing.T) {
	all := modes(t)
	for _, r := range []struct {
		mode    int
		n, d, v int64
		e       api.Errno
	}{
		// What counts is the rounded number: the very same quotient fits or not, by how it is rounded.
		{api.HalfUp, 2*top + 1, 2, 0, api.ErrRange},
		{api.HalfEven, 2*top + 1, 2, top, api.OK},
		{api.Down, 2*top + 1, 2, top, api.OK},
		{api.HalfUp, -2*top - 1, 2, -top, api.OK},
		{api.HalfEven, -2*top - 1, 2, -top, api.OK},
		{api.Down, -2*top - 1, 2, 0, api.ErrRange},
		{api.HalfUp, top + 1, 1, 0, api.ErrRange},
		{api.Down, -top - 1, 1, 0, api.ErrRange},
		{api.Down, math.MinInt64, 1, 0, api.ErrRange},
		{api.HalfUp, math.MaxInt64, 1, 0, api.ErrRange},
		// d is refused first, whatever n is.
		{api.HalfUp, math.MaxInt64, 0, 0, api.ErrArg},
		{api.HalfEven, 0, 0, 0, api.ErrArg},
		{api.Down, 6, -3, 0, api.ErrArg},
		{api.HalfUp, math.MinInt64, math.MinInt64, 0, api.ErrArg},
	} {
		if v, e := all[r.mode].Divide(r.n, r.d); v != r.v || e != r.e {
			t.Errorf("P1.2: mode %d: Divide(%d, %d): %d, error %d; want %d, %d", r.mode, r.n, r.d, v, e, r.v, r.e)
		}
	}
}

func TestRatio(t *testing.T) {
	all := modes(t)
	for _, r := range []struct {
		mode       int
		a, b, d, v int64
		e          api.Errno
	}{
		{api.HalfUp, 100_000, 52_500_000, api.Unit, 5_250, api.OK},
		{api.HalfUp, 3, 5, 2, 8, api.OK},
		{api.HalfEven, 5, 5, 2, 12, api.OK},
		{api.Down, 3, 5, 2, 7, api.OK},
		{api.HalfUp, -3, 5, 2, -7, api.OK},
		{api.HalfEven, 3, -5, 2, -8, api.OK},
		{api.Down, -3, 5, 2, -8, api.OK},
		{api.Down, -3, -5, 2, 7, api.OK},
		{api.HalfUp, 0, math.MinInt64, 1, 0, api.OK},
		// The product needs two words, the quotient fits.
		{api.HalfUp, top, math.MaxInt64, math.MaxInt64, top, api.OK},
		{api.Down, math.MinInt64, top, math.MaxInt64, 0, api.ErrRange},
		{api.HalfUp, math.MinInt64, top, math.MaxInt64, -top, api.OK},
		{api.HalfEven, math.MaxInt64, math.MaxInt64, math.MaxInt64, 0, api.ErrRange},
		// The quotient, too, needs two words.
		{api.HalfUp, math.MinInt64, math.MinInt64, 1, 0, api.ErrRange},
		{api.Down, math.MinInt64, math.MaxInt64, 1, 0, api.ErrRange},
		{api.HalfUp, 1 << 62, 4, 1, 0, api.ErrRange},
		{api.HalfUp, math.MinInt64, math.MinInt64, 0, 0, api.ErrArg},
		{api.HalfUp, 1, 1, -1, 0, api.ErrArg},
		{api.Down, 0, 0, math.MinInt64, 0, api.ErrArg},
	} {
		if v, e := all[r.mode].Ratio(r.a, r.b, r.d); v != r.v || e != r.e {
			t.Errorf("P1.2: mode %d: Ratio(%d, %d, %d): %d, error %d; want %d, %d", r.mode, r.a, r.b, r.d, v, e, r.v, r.e)
		}
	}
}

func TestRatioAtEdges(t *testing.T) {
	for mode, r := range modes(t) {
		for _, a := range edges() {
			for _, b := range edges() {
				for _, d := range edges() {
					want, wantErrno := int64(0), api.ErrArg
					if d > 0 {
						want, wantErrno = held(rounded(mode, a, b, d))
					}
					if v, e := r.Ratio(a, b, d); v != want || e != wantErrno {
						t.Fatalf("P1.2: mode %d: Ratio(%d, %d, %d): %d, error %d; want %d, %d", mode, a, b, d, v, e, want, wantErrno)
					}
				}
			}
		}
	}
}

// TestDivideIsNear holds the chapter's 'What follows', and the choice of two as near, without a rounding of its own.
func TestDivideIsNear(t *testing.T) {
	for mode, r := range modes(t) {
		for d := int64(1); d <= 24; d++ {
			for n := int64(-120); n <= 120; n++ {
				v, e := r.Divide(n, d)
				off := n - v*d
				var near bool
				switch mode {
				case api.HalfUp:
					near = -d <= 2*off && 2*off < d
				case api.HalfEven:
					near = -d < 2*off && 2*off < d || (2*off == d || 2*off == -d) && v%2 == 0
				case api.Down:
					near = 0 <= off && off < d
				}
				if !near || e != api.OK {
					t.Errorf("P1.2: mode %d: Divide(%d, %d): %d, error %d", mode, n, d, v, e)
				}
			}
		}
	}
}
