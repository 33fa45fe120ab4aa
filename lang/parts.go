package lang

import (
	"strings"

	"doppelganger/api"
)

// split returns the parts of a text.
func split(text string) []string {
	var parts []string
	for {
		text = strings.TrimLeft(text, " \t\n")
		if text == "" {
			return parts
		}
		n := partLength(text)
		parts = append(parts, text[:n])
		text = text[n:]
	}
}

// partLength returns the length of the part with which a text begins. A byte that is no mark is a part that no rule of the grammar takes.
func partLength(text string) int {
	if n := letters(text); n > 0 {
		return n
	}
	for _, mark := range []string{":=", "==", "|-"} {
		if strings.HasPrefix(text, mark) {
			return len(mark)
		}
	}
	return 1
}

// letters returns the number of letters with which a text begins.
func letters(text string) int {
	n := 0
	for n < len(text) && 'a' <= text[n] && text[n] <= 'z' {
		n++
	}
	return n
}

func isDigit(part string) bool {
	return len(part) == 1 && '0' <= part[0] && part[0] < '0'+api.Width
}

// isName reports whether a word may be a name.
func isName(word string) bool {
	switch word {
	case "skip", "stop", "fault", "if", "while", "new", "proc", "block", "exit", "do", "com", "exp", "val":
		return false
	}
	return 1 <= len(word) && len(word) <= api.MaxName && letters(word) == len(word)
}
