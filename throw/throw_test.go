package throw_test

import (
	"errors"
	"testing"

	"quittance/api"
	"quittance/throw"
)

// answering is a face whose inside does what it is told to.
func answering(inside func() int64) (v int64, errno api.Errno) {
	defer func() { v, errno = throw.Settle(recover(), v) }()
	return inside(), api.OK
}

func TestWhatIsThrownIsCaught(t *testing.T) {
	lower := func(v int64, errno api.Errno) (int64, api.Errno) { return v, errno }
	for i, r := range []struct {
		inside func() int64
		v      int64
		e      api.Errno
	}{
		{func() int64 { return 5 }, 5, api.OK},
		{func() int64 { throw.Need(true, api.ErrArg); return 5 }, 5, api.OK},
		{func() int64 { throw.Need(false, api.ErrArg); return 5 }, 0, api.ErrArg},
		{func() int64 { return throw.Sure(lower(5, api.OK)) + 1 }, 6, api.OK},
		{func() int64 { return throw.Sure(lower(0, api.ErrDay)) + 1 }, 0, api.ErrDay},
		{func() int64 { panic(errors.New("another one")) }, 0, api.ErrRange},
	} {
		if v, e := answering(r.inside); v != r.v || e != r.e {
			t.Errorf("R1, R4: the row %d: %d, error %d; want %d, %d", i, v, e, r.v, r.e)
		}
	}
}

// telling is a face that tells places, whose inside does what it is told to.
func telling(inside func() int64) (v int64, at int, errno api.Errno) {
	defer func() { v, at, errno = throw.SettleAt(recover(), v) }()
	return inside(), 0, api.OK
}

// checking is a face that answers nothing but the error, whose inside does what it is told to.
func checking(inside func() int64) (errno api.Errno) {
	defer func() { errno = throw.SettleNone(recover()) }()
	inside()
	return api.OK
}

func TestWhatIsThrownWithItsPlaceIsCaught(t *testing.T) {
	for i, r := range []struct {
		inside func() int64
		v      int64
		at     int
		e      api.Errno
	}{
		{func() int64 { return 5 }, 5, 0, api.OK},
		{func() int64 { throw.NeedAt(true, api.ErrToken, 7); return 5 }, 5, 0, api.OK},
		{func() int64 { throw.NeedAt(false, api.ErrToken, 7); return 5 }, 0, 7, api.ErrToken},
		{func() int64 { throw.NeedAt(false, api.ErrSyntax, 0); return 5 }, 0, 0, api.ErrSyntax},
		{func() int64 { throw.Need(false, api.ErrRange); return 5 }, 0, 0, api.ErrRange},
		{func() int64 { panic(errors.New("another one")) }, 0, 0, api.ErrRange},
	} {
		v, at, e := telling(r.inside)
		if v != r.v || at != r.at || e != r.e {
			t.Errorf("R1, R4: the row %d: %d, %d, error %d; want %d, %d, %d", i, v, at, e, r.v, r.at, r.e)
		}
		// A face that tells no places answers the same, without it.
		if v, e := answering(r.inside); v != r.v || e != r.e {
			t.Errorf("R1, R4: the row %d, without a place: %d, error %d; want %d, %d", i, v, e, r.v, r.e)
		}
		// So does one that answers nothing but the error.
		if e := checking(r.inside); e != r.e {
			t.Errorf("R1: the row %d, with the error alone: %d; want %d", i, e, r.e)
		}
	}
}
