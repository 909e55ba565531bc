package aid

import (
	"strings"

	"treadle/gate"
)

// Word: of a story. Who is told it: a thread's number, -1 of one that does not live.
type Word struct {
	Thread int
	Text   string
}

// Story is what calls are told, in the order in which they are. Of those who are told it one moves at a time.
type Story []Word

// Tells puts a word behind the others.
func (s *Story) Tells(t *gate.Thread, text string) { *s = append(*s, Word{t.Number(), text}) }

// String: the words, whoever is told them.
func (s Story) String() string {
	var l []string
	for _, w := range s {
		l = append(l, w.Text)
	}
	return strings.Join(l, " ")
}

// Yes: the word for what is so, or is not.
func Yes(is bool) string {
	if is {
		return "yes"
	}
	return "no"
}

// Digit: 1 of what is so, 0 of what is not.
func Digit(is bool) int {
	if is {
		return 1
	}
	return 0
}
