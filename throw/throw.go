// Package throw is how the layers refuse from deep within: what fails is thrown as an api.Errno, or as
// one with its place, and caught at the face of the call, which defers
//
//	defer func() { answer, errno = throw.Settle(recover(), answer) }()
//
// or, if it tells places,
//
//	defer func() { answer, at, errno = throw.SettleAt(recover(), answer) }()
//
// or, if it answers nothing but the error,
//
//	defer func() { errno = throw.SettleNone(recover()) }()
package throw

import (
	"quittance/api"
)

// placed is an error, and where in what was given it lies.
type placed struct {
	errno api.Errno
	at    int
}

// Need throws errno, unless ok.
func Need(ok bool, errno api.Errno) {
	if !ok {
		panic(errno)
	}
}

// NeedAt throws errno and its place, unless ok.
func NeedAt(ok bool, errno api.Errno, at int) {
	if !ok {
		panic(placed{errno, at})
	}
}

// Sure is what a call of a lower layer has answered, or throws what it refused with.
func Sure[T any](answer T, errno api.Errno) T {
	Need(errno == api.OK, errno)
	return answer
}

// Settle turns what a face's recover has caught into that face's results: without a throw what was
// answered, else nothing but the error.
func Settle[T any](thrown any, answer T) (T, api.Errno) {
	answer, _, errno := SettleAt(thrown, answer)
	return answer, errno
}

// SettleNone is Settle for a face that answers nothing but the error.
func SettleNone(thrown any) api.Errno {
	_, errno := Settle(thrown, struct{}{})
	return errno
}

// SettleAt is Settle for a face that tells the place of a fault: 0, where there is none, or none was
// thrown.
func SettleAt[T any](thrown any, answer T) (T, int, api.Errno) {
	var nothing T
	switch t := thrown.(type) {
	case nil:
		return answer, 0, api.OK
	case api.Errno:
		return nothing, 0, t
	case placed:
		return nothing, t.at, t.errno
	}
	// Only errors are thrown. Were there ever another panic, no call may let it out (R1), nor tell OK.
	return nothing, 0, api.ErrRange
}
