// Package lines writes and reads texts whose lines consist of words, with single blanks between them.
package lines

import (
	"slices"
	"strconv"
	"strings"

	"promptbook/api"
)

// Write is the text with the words of each line.
func Write(all [][]string) (string, api.Errno) {
	var text strings.Builder
	for _, words := range all {
		line := strings.Join(words, " ") + "\n"
		if text.Len()+len(line) > api.MaxText {
			return "", api.ErrLarge
		}
		text.WriteString(line)
	}
	return text.String(), api.OK
}

// Read hands take the words of one line after the other. Where a line is not made of words, is not ended, or take returns false, the text has not its form: the int is the number of this line then.
func Read(text string, take func(words []string) bool) (int, api.Errno) {
	if len(text) > api.MaxText {
		return 0, api.ErrLarge
	}
	for number := 0; text != ""; number++ {
		line, rest, ended := strings.Cut(text, "\n")
		words := strings.Split(line, " ")
		if !ended || slices.Contains(words, "") || !take(words) {
			return number, api.ErrSyntax
		}
		text = rest
	}
	return 0, api.OK
}

// Number is the number that a word writes in its only form, with at most so many digits.
func Number(word string, digits int) (int, bool) {
	n, err := strconv.Atoi(word)
	if err != nil || strconv.Itoa(n) != word || len(strings.TrimPrefix(word, "-")) > digits {
		return 0, false
	}
	return n, true
}
