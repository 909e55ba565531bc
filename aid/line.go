package aid

import (
	"slices"
	"strconv"
	"strings"
)

// Line: the values as a text, each with a blank behind it: lists so can be held against one another by ==.
func Line(l []int64) string {
	var s strings.Builder
	for _, v := range l {
		s.WriteString(strconv.FormatInt(v, 10) + " ")
	}
	return s.String()
}

// OfLine: the values of a Line.
func OfLine(line string) (l []int64) {
	for _, f := range strings.Fields(line) {
		v, _ := strconv.ParseInt(f, 10, 64)
		l = append(l, v)
	}
	return l
}

// EachOnce: whether these are the numbers behind from, up to to, each once, in whatever order.
func EachOnce(l []int64, from, to int64) bool {
	l = slices.Sorted(slices.Values(l))
	for i, n := range l {
		if n != from+int64(i)+1 {
			return false
		}
	}
	return int64(len(l)) == max(to-from, 0)
}
