package mint

import (
	"slices"
	"strings"
)

// args are the names and the numbers behind the first word of a line, each
// in the order of the line.
type args struct {
	names   []string
	numbers []int
}

// split returns the words of a line, and whether s is one.
func split(s string) ([]string, bool) {
	if len(s) > maxBytes {
		return nil, false
	}
	for i := range len(s) {
		if s[i] < 32 || s[i] > 126 {
			return nil, false
		}
	}
	words := strings.Split(s, " ")
	// Where blanks are not single, or nothing is before or behind one, there is an empty word; so there is in an empty s.
	return words, !slices.Contains(words, "")
}

// read returns the names and numbers that words are, and whether they are
// those that are expected: a name for each a, a number for each 1.
func read(words []string, expected string) (args, bool) {
	if len(words) != len(expected) {
		return args{}, false
	}
	var a args
	for i, kind := range expected {
		if kind == 'a' {
			if !isName(words[i]) {
				return args{}, false
			}
			a.names = append(a.names, words[i])
			continue
		}
		n, ok := number(words[i])
		if !ok {
			return args{}, false
		}
		a.numbers = append(a.numbers, n)
	}
	return a, true
}

func isName(word string) bool {
	for _, letter := range word {
		if letter < 'a' || letter > 'z' {
			return false
		}
	}
	return len(word) >= 1 && len(word) <= 8
}

// number returns the number that a word is, and whether it is one.
func number(word string) (int, bool) {
	if len(word) < 1 || len(word) > 3 || len(word) > 1 && word[0] == '0' {
		return 0, false
	}
	n := 0
	for _, digit := range word {
		if digit < '0' || digit > '9' {
			return 0, false
		}
		n = 10*n + int(digit-'0')
	}
	return n, true
}
