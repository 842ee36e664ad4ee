package civil

import (
	"strconv"
)

// formed tells whether s has ten bytes: digits, but for hyphens at the fifth and the eighth.
func formed(s string) bool {
	const form = "0000-00-00"
	if len(s) != len(form) {
		return false
	}
	for i := range len(form) {
		if form[i] == '-' && s[i] != '-' || form[i] == '0' && !digit(s[i]) {
			return false
		}
	}
	return true
}

func digit(b byte) bool {
	return b >= '0' && b <= '9'
}

// number is what four digits at most say.
func number(digits string) int {
	// Atoi refuses nothing that is formed.
	n, _ := strconv.Atoi(digits)
	return n
}

// twoDigits writes n, which is below 100.
func twoDigits(n int) string {
	if n < 10 {
		return "0" + strconv.Itoa(n)
	}
	return strconv.Itoa(n)
}
