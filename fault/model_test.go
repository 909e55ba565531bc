package fault_test

import (
	"errors"
	"fmt"
	"io"
	"math/rand"
	"slices"
	"strconv"
	"testing"

	"treadle/aid"
	"treadle/api"
	"treadle/fault"
)

// How a search in an error ends, by what errors.As does: it asks an error, and then what that wraps, the first ahead of the rest.
const (
	nothing = iota
	there
	fell // one that was asked panics: the search ends there
)

// known: an error, and what is to be told of it, put together as it was made.
type known struct {
	e       error
	text    string
	tells   bool // it does not panic as it tells
	errno   int  // how the search for a number ends
	class   api.Errno
	at      int // how the search for an At ends
	numbers []int
	leaf    error // the error of the chapter that it is, or wraps, with nothing beside it
}

// maker: of random errors.
type maker struct{ *rand.Rand }

func (m maker) number() int { return aid.Some(m.Intn, numbers()) }

func (m maker) value() any {
	return aid.Some(m.Intn, []any{7, "x", io.EOF, api.ErrDeep, &fault.Failed{Code: 3}, fault.Wrap(9, io.EOF), []int{1}, nil})
}

// chapters: one that wraps none.
func (m maker) chapters() known {
	n := aid.Some(m.Intn, aid.Values())
	tens := strconv.FormatInt(n, 10)
	k := known{tells: true, errno: there}
	switch m.Intn(4) {
	case 0:
		k.e, k.text, k.class = &fault.Failed{Code: n}, "failed "+tens, api.ErrFailed
	case 1:
		k.e, k.text, k.class = &fault.Cancelled{Reason: n}, "cancelled "+tens, api.ErrCancelled
	case 2:
		k.e, k.text, k.class = &fault.Late{Due: n}, "late "+tens, api.ErrTime
	case 3:
		k.e, k.text, k.class = &fault.Panicked{Value: m.value()}, "panic", api.ErrPanic
		if x := m.value(); x != nil {
			k.e = fault.Of(x)
		}
	}
	k.leaf = k.e
	return k
}

// leafless: one of no chapter, or a nil pointer, or an At without an Err.
func (m maker) leafless() known {
	switch m.Intn(8) {
	case 0:
		return known{e: io.EOF, text: "EOF", tells: true}
	case 1:
		n := aid.Some(m.Intn, errnos())
		return known{e: n, text: n.Error(), tells: true, errno: there, class: n}
	case 2:
		return known{e: aid.Some(m.Intn, nils()[:4]), tells: true}
	case 3:
		return known{e: (*fault.At)(nil), tells: true, at: there}
	case 4:
		n := m.number()
		return known{e: &fault.At{Number: n}, text: strconv.Itoa(n) + ": ", tells: true, at: there, numbers: []int{n}}
	case 5:
		return known{e: &falls{m.value()}, errno: fell, at: fell}
	case 6:
		return known{e: &fallsAs{m.value()}, errno: fell, at: fell}
	}
	n := m.number()
	return known{e: &sets{at: &fault.At{Number: n}, errno: api.ErrDeep, sets: true, is: true}, text: "sets", tells: true, errno: there, class: api.ErrDeep, at: there, numbers: []int{n}}
}

// nested: one with so many others in one another at most.
func (m maker) nested(depth int) known {
	if depth == 0 || m.Intn(8) == 0 {
		if m.Intn(3) == 0 {
			return m.leafless()
		}
		return m.chapters()
	}
	switch m.Intn(7) {
	case 0:
		return m.around(m.nested(depth - 1))
	case 1:
		return m.several(depth - 1)
	}
	return m.wraps(m.nested(depth - 1))
}

// wraps: by the package's Wrap.
func (m maker) wraps(k known) known {
	n := m.number()
	k.e = fault.Wrap(n, k.e)
	if !k.tells {
		k.text = ""
	}
	k.text, k.tells = strconv.Itoa(n)+": "+k.text, true
	if k.at == nothing || k.at == fell {
		k.numbers = nil
	}
	k.at, k.numbers = there, append([]int{n}, k.numbers...)
	return k
}

func (m maker) around(k known) known {
	if m.Intn(2) == 0 && k.tells {
		k.e, k.text = fmt.Errorf("so %w", k.e), "so "+k.text
		return k
	}
	k.e, k.text = &around{k.e}, "around ("+k.text+")"
	return k
}

func (m maker) several(depth int) known {
	var l several
	k := known{tells: true}
	for range m.Intn(4) {
		x := m.nested(depth)
		l = append(l, x.e)
		if k.errno == nothing {
			k.errno, k.class = x.errno, x.class
		}
		if k.at == nothing {
			k.at, k.numbers = x.at, x.numbers
		}
	}
	k.e, k.text = l, fmt.Sprintf("several of %d", len(l))
	return k
}

// TestErrorsInErrors: random ones, held against what is to be told of them.
func TestErrorsInErrors(t *testing.T) {
	met := map[string]int{}
	for seed := range int64(20000) {
		m := maker{rand.New(rand.NewSource(seed))}
		k := m.nested(m.Intn(9))
		want := k.class
		if k.errno != there {
			want = api.ErrFailed
		}
		if k.at != there {
			k.numbers = nil
		}
		if class := fault.Class(k.e); class != want {
			t.Fatalf("P12.5: seed %d: %d, not %d", seed, class, want)
		}
		if l := fault.Numbers(k.e); !slices.Equal(l, k.numbers) {
			t.Fatalf("P12.7: seed %d: %v, not %v", seed, l, k.numbers)
		}
		if k.tells && k.e.Error() != k.text {
			t.Fatalf("P12.1: seed %d: %q, not %q", seed, k.e, k.text)
		}
		if k.leaf != nil {
			follows(t, seed, k)
			met["a leaf"]++
		}
		met[[]string{"no number", "a number", "a search that fell"}[k.errno]]++
		met[[]string{"no At", "an At", "a search for an At that fell"}[k.at]]++
		met[fmt.Sprintf("%d numbers", min(len(k.numbers), 5))]++
	}
	for _, what := range []string{"a leaf", "no number", "a number", "a search that fell", "no At", "an At", "a search for an At that fell", "0 numbers", "1 numbers", "2 numbers", "3 numbers", "4 numbers", "5 numbers"} {
		if met[what] < 300 {
			t.Errorf("the errors are no good: %s in %v", what, met)
		}
	}
}

// follows: what follows, of an error of the chapter that is wrapped, by whomever.
func follows(t *testing.T, seed int64, k known) {
	t.Helper()
	if l := found(k.e); !slices.Equal(l, []api.Errno{k.class}) || fault.Class(k.e) != k.class {
		t.Fatalf("what follows: seed %d: errors.Is finds %v, Class tells %d", seed, l, fault.Class(k.e))
	}
	var failed *fault.Failed
	var cancelled *fault.Cancelled
	var late *fault.Late
	var panicked *fault.Panicked
	for n, as := range map[api.Errno]func() (bool, error){
		api.ErrFailed:    func() (bool, error) { return errors.As(k.e, &failed), failed },
		api.ErrCancelled: func() (bool, error) { return errors.As(k.e, &cancelled), cancelled },
		api.ErrTime:      func() (bool, error) { return errors.As(k.e, &late), late },
		api.ErrPanic:     func() (bool, error) { return errors.As(k.e, &panicked), panicked },
	} {
		if is, e := as(); is != (n == k.class) || is && e != k.leaf {
			t.Fatalf("what follows: seed %d: errors.As finds %v: %v, as the number is %d", seed, e, is, n)
		}
	}
}

// TestFollowsOfAllThatIsCaught: what a Catch tells of a panic, or hands on, and is wrapped, the last one first.
func TestFollowsOfAllThatIsCaught(t *testing.T) {
	for _, f := range []func() (int64, error){panics(&fault.Failed{Code: 1}), panics(api.ErrCancelled), panics(nil), answers(5, &fault.Failed{Code: 1}), answers(5, &fault.Cancelled{Reason: 2}), answers(5, &fault.Late{Due: 3})} {
		first := catch(f).e
		k := known{e: first, leaf: first, class: fault.Class(first)}
		var l []int
		for i := range 70 {
			at := catch(answers(5, fault.Wrap(i, k.e)))
			k.e, l = at.e, append([]int{i}, l...)
			follows(t, int64(i), k)
			if !slices.Equal(fault.Numbers(k.e), l) {
				t.Errorf("what follows: %v, not %v", fault.Numbers(k.e), l)
			}
		}
	}
}
