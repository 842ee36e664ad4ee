package decimal

import (
	"strconv"
	"strings"

	"quittance/api"
	"quittance/fixnum"
	"quittance/throw"
)

const hyphen = "-"

// split writes v as its sign, what is ahead of the point, and as many digits behind it as there are places.
func split(v int64, places int) (sign, whole, part string) {
	// The hyphen is taken off the text, not the number: the least int64 has no opposite.
	sign, digits := cutSign(strconv.FormatInt(v, 10))
	digits = noughts(places+1-len(digits)) + digits
	point := len(digits) - places
	return sign, digits[:point], digits[point:]
}

// noughts is n of them, and none if n is below 0.
func noughts(n int) string {
	return strings.Repeat("0", max(n, 0))
}

// cutSign takes the hyphen off s, if one is ahead.
func cutSign(s string) (sign, rest string) {
	if rest, found := strings.CutPrefix(s, hyphen); found {
		return hyphen, rest
	}
	return "", s
}

// needForm throws ErrForm, unless ok.
func needForm(ok bool) {
	throw.Need(ok, api.ErrForm)
}

// needWhole throws, unless s may stand ahead of a point: so many digits at most, without noughts ahead.
func needWhole(s string, most int) {
	needForm(len(s) <= most && digitsOnly(s))
	needForm(s == "0" || s[0] != '0')
}

// digitsOnly tells whether s is digits, one at least.
func digitsOnly(s string) bool {
	return s != "" && strings.Trim(s, "0123456789") == ""
}

// number is what digits say, or throws ErrRange.
func number(digits string) int64 {
	var v int64
	for _, digit := range []byte(digits) {
		v = throw.Sure(fixnum.Times(v, 10))
		v = throw.Sure(fixnum.Plus(v, int64(digit-'0')))
	}
	return v
}

// signed gives a size the sign that a text had. 0 has none: a hyphen ahead of it is thrown.
func signed(sign string, size int64) int64 {
	if sign == "" {
		return size
	}
	needForm(size != 0)
	return -size
}
