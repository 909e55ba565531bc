package token_test

import (
	"math/rand"
	"slices"
	"strings"
	"testing"

	"treadle/aid"
	"treadle/api"
	"treadle/token"
)

// pair: tokens of the package, and those of the chapter's words.
type pair struct {
	is *world[*token.Token]
	as *world[*words]
	of *book
}

// newPair: of tokens that one thread made the first calls of.
func newPair(t *testing.T, first []call) *pair {
	t.Helper()
	p := &pair{is: newWorld(token.New(), nil), of: newBook()}
	p.as = newWorld(p.of.token(nil), nil)
	p.run(t, [][]call{first}, nil, api.MaxTurns)
	p.of.met = map[string]int{}
	return p
}

// run plays threads that call the package's tokens; then threads go through the chapter's words by the same turns: they are to tell just the same.
func (p *pair) run(t *testing.T, calls [][]call, picks []int, most int) api.Report {
	t.Helper()
	r, faults := aid.MirrorTold(picks, most, p.is.bodies(calls), p.as.bodies(calls), &p.is.story, &p.as.story)
	for _, f := range faults {
		t.Errorf("P11.2 to P11.6, R1, W1, W3: %s", f)
	}
	return r
}

// ends: what is found behind a run: what does not follow; and whether the tokens are still the same as those of the words.
func (p *pair) ends(t *testing.T, whole bool) {
	t.Helper()
	p.of.ends(whole && !strings.Contains(p.as.story.String(), "fell"))
	for _, f := range p.of.faults {
		t.Errorf("W4, what follows: %s", f)
	}
	p.run(t, [][]call{tells(len(p.is.all))}, nil, api.MaxTurns)
}

// TestRuns: random threads under random picks, and again.
func TestRuns(t *testing.T) {
	const enough = 1 << 14
	ended, met := map[int8]int{}, map[string]int{}
	for seed := range int64(8000) {
		r := rand.New(rand.NewSource(seed))
		first, calls := someCalls(r)
		most := aid.Some(r.Intn, []int{0, 5, 10, 20, 40, enough, enough, enough, enough, enough})
		picks := aid.Mixed(seed, r.Intn, 120, []int{1, 2, 3, 4, 6, 9})
		p := newPair(t, first)
		report := p.run(t, calls, picks, most)
		for what, n := range p.of.met {
			met[what] += n
		}
		p.ends(t, report.End == api.Over)
		if most == enough && report.End == api.Cut {
			t.Errorf("R1: %d turns are not enough", most)
		}
		for _, f := range aid.Again(report, picks, func() []aid.Body { return newPair(t, first).is.bodies(calls) }) {
			t.Errorf("W7: %s", f)
		}
		if t.Failed() {
			t.Fatalf("seed %d: behind %v: %v: %s", seed, first, calls, aid.Texts(report.Log))
		}
		ended[report.End]++
	}
	if ended[api.Over] < 3000 || ended[api.Cut] < 1000 || ended[api.Dead] < 500 {
		t.Errorf("the threads are no good: %v", ended)
	}
	for least, l := range map[int][]string{
		1000: {"Child: done", "Child: of one that is cancelled", "OnCancel: done", "OnCancel: of one that is cancelled", "Cancel: yes", "Cancel: refused", "Cancel: a child has a reason", "Wait: sleeps"},
		100:  {"Child: done, of one that is being cancelled", "Child: forestalled", "Child: cancelled in its midst", "Child: full", "OnCancel: done, of one that is being cancelled", "OnCancel: forestalled", "OnCancel: cancelled in its midst", "OnCancel: full", "Wait: at once", "Wait: woken"},
		20:   {"Cancel: yes, while one below still lives"},
	} {
		for _, what := range l {
			if met[what] < least {
				t.Errorf("the threads are no good: %s: %d", what, met[what])
			}
		}
	}
}

// someCalls: those that one thread makes ahead of a run; and those of some threads.
func someCalls(r *rand.Rand) (first []call, calls [][]call) {
	m := &maker{Rand: r, ops: []int{child, child, child, set}}
	first = m.calls(9, 0)
	if r.Intn(8) == 0 {
		first = append(first, fills(61+r.Intn(4), 0)...)
	}
	if r.Intn(40) == 0 {
		first = append(first, cancels(r.Intn(3), 50))
	}
	for range 1 + r.Intn(5) {
		m.ops = aid.Some(r.Intn, [][]int{{child, set}, {child, set}, {cancel}, {cancel, ask}, {child, child, set, cancel}, {child, set, ask, cancel, cancel}, {wait, wait, ask, cancel}})
		calls = append(calls, m.calls(5, 0))
	}
	return first, calls
}

// TestEverySchedule: small threads under all schedules.
func TestEverySchedule(t *testing.T) {
	a, b := quiet("A"), quiet("B")
	tree := []call{bears(0), bears(1), sets(2, a), sets(1, b)}
	full := slices.Repeat([]call{sets(0, a)}, 63) // but for one
	const lives, skips, refused, woken = "Cancel: yes, while one below still lives", "Cancel: a child has a reason", "Cancel: refused", "Wait: woken"
	const childInMidst, childBetween, setInMidst, setBetween = "Child: cancelled in its midst", "Child: done, of one that is being cancelled", "OnCancel: cancelled in its midst", "OnCancel: done, of one that is being cancelled"
	for _, row := range []struct {
		first []call
		calls [][]call
		runs  int            // so many schedules there are
		dead  int            // so many of them end with one who sleeps for good
		met   map[string]int // in so many this is met
	}{
		{nil, [][]call{{cancels(0, 1)}, {cancels(0, 2)}}, 4, 0, map[string]int{refused: 4}},
		{nil, [][]call{{cancels(0, 1)}, {bears(0), asks(1)}}, 23, 0, map[string]int{childInMidst: 5, childBetween: 12}},
		{nil, [][]call{{cancels(0, 1)}, {sets(0, a)}}, 10, 0, map[string]int{setInMidst: 5, setBetween: 3}},
		{nil, [][]call{{cancels(0, 1)}, {sets(0, a)}, {cancels(0, 2)}}, 98, 0, map[string]int{refused: 98, setInMidst: 62, setBetween: 24}},
		{nil, [][]call{{sets(0, a)}, {sets(0, b)}, {cancels(0, 1)}}, 2600, 0, map[string]int{"OnCancel: forestalled": 306, setInMidst: 2410, setBetween: 450}},
		{full, [][]call{{sets(0, a)}, {bears(0)}}, 14, 0, map[string]int{"OnCancel: full": 7, "Child: full": 7}},
		{full, [][]call{{sets(0, a)}, {bears(0)}, {cancels(0, 3)}}, 781, 0, map[string]int{"OnCancel: full by then, when it is cancelled": 212, "Child: full by then, when it is cancelled": 136, setInMidst: 332, childInMidst: 242}},
		{nil, [][]call{{cancels(0, 1)}, {waits(0)}, {waits(0), cancels(0, 2)}}, 60, 0, map[string]int{woken: 48, refused: 60}},
		{nil, [][]call{{waits(0)}, {asks(0), cancels(0, 0)}}, 2, 2, map[string]int{"Wait: sleeps": 2}},
		{[]call{bears(0)}, [][]call{{cancels(1, 1)}, {waits(0)}, {waits(1)}}, 18, 18, map[string]int{woken: 10}},
		{tree, [][]call{{cancels(0, 1)}, {cancels(1, 2)}}, 38, 0, map[string]int{refused: 4, skips: 34, lives: 9}},
		{tree, [][]call{{cancels(0, 1)}, {cancels(1, 2)}, {cancels(2, 3)}}, 676, 0, map[string]int{refused: 199, skips: 666, lives: 45}},
		{nil, [][]call{{cancels(0, 1)}, {bears(0), bears(1), sets(2, a)}}, 1556, 0, map[string]int{childInMidst: 46, childBetween: 1073, setInMidst: 609, setBetween: 429}},
		{[]call{sets(0, busy("C", bears(0), cancels(1, 9))), bears(0), sets(0, b)}, [][]call{{cancels(0, 1)}, {cancels(1, 2)}}, 46, 0, map[string]int{skips: 44, "Child: of one that is cancelled": 46}},
		{[]call{bears(0), bears(0), sets(1, busy("C", cancels(2, 9), bears(2))), sets(2, busy("D", cancels(1, 8)))}, [][]call{{cancels(0, 1)}, {cancels(2, 2)}}, 883, 0, map[string]int{skips: 883, childInMidst: 75, childBetween: 25}},
		{[]call{bears(0), sets(1, busy("C", cancels(0, 9))), bears(1), bears(0)}, [][]call{{cancels(1, 1)}, {cancels(0, 2)}}, 224, 0, map[string]int{skips: 217, lives: 52}},
		{[]call{sets(0, fallen("C")), bears(0)}, [][]call{{cancels(0, 1)}, {cancels(1, 2)}, {sets(0, a)}}, 279, 0, map[string]int{setInMidst: 180, setBetween: 63}},
	} {
		dead, met := 0, map[string]int{}
		runs := aid.Every(99, func(picks []int) []int {
			p := newPair(t, row.first)
			r := p.run(t, row.calls, picks, len(picks))
			if r.End == api.Dead {
				dead++
			}
			for what := range p.of.met {
				met[what]++
			}
			p.ends(t, r.End == api.Over)
			if t.Failed() || r.End == api.Cut {
				t.Fatalf("behind %v: %v: %v: %s", row.first, row.calls, picks, aid.Texts(r.Log))
			}
			return r.Ready
		})
		if runs != row.runs || dead != row.dead {
			t.Errorf("behind %v, %v: %d schedules, of which %d are dead", row.first, row.calls, runs, dead)
		}
		for what, n := range row.met {
			if met[what] != n {
				t.Errorf("behind %v, %v: in %d of the schedules: %s", row.first, row.calls, met[what], what)
			}
		}
	}
}
