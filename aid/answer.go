package aid

import (
	"strconv"
	"strings"

	"treadle/api"
	"treadle/fault"
)

// Answer: a value, or an error; both, where something is wrong.
type Answer struct {
	V int64
	E error
}

// Told: what a call answered.
func Told(v int64, e error) Answer { return Answer{v, e} }

// String: a text without blanks; that of an error has what belongs to it.
func (a Answer) String() string {
	v := strconv.FormatInt(a.V, 10)
	switch {
	case a.E == nil:
		return v
	case a.V != 0:
		return v + "_beside_" + failure(a.E)
	}
	return failure(a.E)
}

// failure: an error, by its type and what it has.
func failure(e error) string {
	switch x := e.(type) {
	case *fault.Cancelled:
		return "cancelled:" + strconv.FormatInt(x.Reason, 10)
	case *fault.Panicked:
		return "panicked:" + carried(x.Value)
	case api.Errno:
		return "errno:" + strconv.Itoa(int(x))
	}
	return strings.ReplaceAll(e.Error(), " ", "_")
}

// carried: a panic's value, by its text, if it is one that has a plain one.
func carried(x any) string {
	switch v := x.(type) {
	case string:
		return v
	case int:
		return strconv.Itoa(v)
	case int64:
		return strconv.FormatInt(v, 10)
	case error:
		return strings.ReplaceAll(v.Error(), " ", "_")
	}
	return "something"
}
