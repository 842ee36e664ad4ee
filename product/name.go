package product

// small tells whether c is a letter a to z.
func small(c byte) bool {
	return lies(c, 'a', 'z')
}

// spelt tells whether s is of nothing but what may follow a name's first letter.
func spelt(s string) bool {
	for i := range len(s) {
		if c := s[i]; !small(c) && !lies(c, '0', '9') && c != '-' {
			return false
		}
	}
	return true
}

// reserved tells whether s is one of the words of grammar (chapter 9), which are no names. They stand here
// once more, since grammar is a layer above this one.
func reserved(s string) bool {
	switch s {
	case "product", "count", "thirty", "fixed", "actual", "round", "half-up", "down",
		"kind", "annuity", "equal", "bullet", "every", "times", "grace", "rate", "penalty",
		"reset", "late", "cap", "holiday", "order", "fees", "interest", "principal",
		"over", "hold", "prepay", "refund", "roll", "stay", "next", "within", "previous":
		return true
	}
	return false
}
