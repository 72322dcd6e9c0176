package script

import (
	"strconv"
	"strings"

	"promptbook/api"
	"promptbook/raw"
)

// Kinds of words.
const (
	wordWrong = iota // what is no word
	wordEnd          // the end of the text
	wordName
	wordNumber
	wordFixed // a word that the grammar names
)

type word struct {
	kind int
	text string
}

// commentLength is how many bytes come before the end of the line.
func commentLength(text string) int {
	if n := strings.IndexByte(text, '\n'); n >= 0 {
		return n
	}
	return len(text)
}

// firstWord is the word with which a text begins.
func firstWord(text string) word {
	if text == "" {
		return word{kind: wordEnd}
	}
	if n := runLength(text); n > 0 {
		return word{kind: runKind(text[:n]), text: text[:n]}
	}
	if n := signLength(text); n > 0 {
		return word{kind: wordFixed, text: text[:n]}
	}
	return word{kind: wordWrong}
}

// runLength is how many digits, letters and `_` a text begins with.
func runLength(text string) int {
	for i := range len(text) {
		c := text[i]
		if !raw.IsSmall(c) && !raw.IsDigit(c) && c != '_' && (c < 'A' || c > 'Z') {
			return i
		}
	}
	return len(text)
}

func runKind(run string) int {
	if raw.IsReserved(run) {
		return wordFixed
	}
	if raw.IsName(run) {
		return wordName
	}
	// Only the usual form of a number is the text of its value.
	if n, err := strconv.Atoi(run); err == nil && n <= api.MaxValue && strconv.Itoa(n) == run {
		return wordNumber
	}
	return wordWrong
}

// signLength is the length of the longest sign with which a text begins, 0 if there is none.
func signLength(text string) int {
	if len(text) >= 2 {
		switch text[:2] {
		case "->", ":=", "==":
			return 2
		}
	}
	switch text[0] {
	case '{', '}', '(', ')', '[', ']', ';', ',', '.', '+', '-', '*', '<', '!', '?', ':':
		return 1
	}
	return 0
}
