package fixnum

import (
	"quittance/api"
)

// need throws errno, unless ok.
func need(ok bool, errno api.Errno) {
	if !ok {
		panic(errno)
	}
}

// fitting is v itself, or throws ErrRange.
func fitting(v int64) int64 {
	need(Fits(v), api.ErrRange)
	return v
}

// settle turns what a face's recover has caught into that face's results: without a throw what was
// answered, else nothing but the error.
func settle[T any](thrown any, answer T) (T, api.Errno) {
	if thrown == nil {
		return answer, api.OK
	}
	var nothing T
	if errno, ok := thrown.(api.Errno); ok {
		return nothing, errno
	}
	// Only need throws here. Were there ever another panic, no call may let it out (R1), nor tell OK.
	return nothing, api.ErrRange
}
