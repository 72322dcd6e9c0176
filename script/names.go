package script

import "promptbook/api"

func isName(s string) bool {
	if len(s) < 1 || len(s) > api.MaxName || !isSmall(s[0]) || isReserved(s) {
		return false
	}
	for i := range len(s) {
		if !isSmall(s[i]) && !isDigit(s[i]) && s[i] != '_' {
			return false
		}
	}
	return true
}

// isReserved says whether s is a word that the grammar keeps for itself.
func isReserved(s string) bool {
	switch s {
	case "proc", "main", "if", "else":
		return true
	}
	return false
}

func isSmall(c byte) bool {
	return 'a' <= c && c <= 'z'
}

func isDigit(c byte) bool {
	return '0' <= c && c <= '9'
}
