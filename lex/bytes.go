package lex

func isSpace(b byte) bool {
	return b == ' ' || b == '\t' || b == '\n' || b == '\r'
}

func isLetter(b byte) bool {
	return 'a' <= b && b <= 'z' || 'A' <= b && b <= 'Z' || b == '_'
}

func isDigit(b byte) bool {
	return '0' <= b && b <= '9'
}

// isPart is of the bytes behind the first one of a name.
func isPart(b byte) bool {
	return isLetter(b) || isDigit(b)
}

// extent is how many bytes such stand at the beginning of s.
func extent(s string, such func(b byte) bool) int {
	for i := range len(s) {
		if !such(s[i]) {
			return i
		}
	}
	return len(s)
}
