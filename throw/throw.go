// Package throw is how the layers refuse from deep within: what fails is thrown as an api.Errno, and
// caught at the face of the call, which defers
//
//	defer func() { answer, errno = throw.Settle(recover(), answer) }()
package throw

import (
	"quittance/api"
)

// Need throws errno, unless ok.
func Need(ok bool, errno api.Errno) {
	if !ok {
		panic(errno)
	}
}

// Sure is what a call of a lower layer has answered, or throws what it refused with.
func Sure[T any](answer T, errno api.Errno) T {
	Need(errno == api.OK, errno)
	return answer
}

// Settle turns what a face's recover has caught into that face's results: without a throw what was
// answered, else nothing but the error.
func Settle[T any](thrown any, answer T) (T, api.Errno) {
	if thrown == nil {
		return answer, api.OK
	}
	var nothing T
	if errno, ok := thrown.(api.Errno); ok {
		return nothing, errno
	}
	// Only errors are thrown. Were there ever another panic, no call may let it out (R1), nor tell OK.
	return nothing, api.ErrRange
}
