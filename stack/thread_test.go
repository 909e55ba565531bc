package stack_test

import (
	"slices"
	"testing"

	"treadle/aid"
	"treadle/api"
	"treadle/gate"
)

// meeting: threads that meet at one stack, each with its own calls.
type meeting struct {
	what  string
	of    size
	first []call // free, ahead of the run
	calls [][]call
	picks []int
	log   string
	want  [][]answer
}

func (m meeting) look(t *testing.T) {
	s := m.of.stack()
	all(s, nil, m.first...)
	threads := aid.Scripts[call, answer]{Calls: m.calls, Do: func(t *gate.Thread, c call) answer { return do(s, t, c) }}
	r := gate.Run(m.picks, 99, threads.Bodies()...)
	if aid.Texts(r.Log) != m.log || r.End != api.Over || !slices.EqualFunc(threads.Got, m.want, slices.Equal) {
		t.Errorf("P8.2, P8.3: %s:\n got %s, end %d, %v\nwant %s, %v", m.what, aid.Texts(r.Log), r.End, threads.Got, m.log, m.want)
	}
}

// TestTraps: a node that comes back to the top while somebody believes what he has read of it.
func TestTraps(t *testing.T) {
	one, two := []call{pushes(1)}, []call{pushes(1), pushes(2)}
	for _, m := range []meeting{
		{"the chapter's", size{2, 0}, two, [][]call{{pops}, {pops, pops, pushes(3), pushes(4)}}, aid.Goes([2]int{0, 2}, [2]int{1, 28}),
			"0 load c0: 131074; 0 load c1: 1; " +
				"1 load c0: 131074; 1 load c1: 1; 1 cas c0 131074 196609: 131074 ok; 1 load c2: 2; 1 load c3: 131072; 1 store c1 0: 1; 1 cas c3 131072 196610: 131072 ok; " +
				"1 load c0: 196609; 1 load c4: 0; 1 cas c0 196609 262144: 196609 ok; 1 load c5: 1; 1 load c3: 196610; 1 store c4 2: 0; 1 cas c3 196610 262145: 196610 ok; " +
				"1 load c3: 262145; 1 load c4: 2; 1 cas c3 262145 327682: 262145 ok; 1 store c5 3: 1; 1 load c0: 262144; 1 store c4 0: 2; 1 cas c0 262144 327681: 262144 ok; " +
				"1 load c3: 327682; 1 load c1: 0; 1 cas c3 327682 393216: 327682 ok; 1 store c2 4: 2; 1 load c0: 327681; 1 store c1 1: 0; 1 cas c0 327681 393218: 327681 ok; " +
				"0 cas c0 131074 196609: 393218 no; 0 load c0: 393218; 0 load c1: 1; 0 cas c0 393218 458753: 393218 ok; 0 load c2: 4; 0 load c3: 393216; 0 store c1 0: 1; 0 cas c3 393216 458754: 393216 ok",
			[][]answer{{popped(4)}, {popped(2), popped(1), okay, okay}}},
		{"it has come back, and what was beneath it has not", size{2, 0}, two, [][]call{{pops, pops}, {pops, pops, pushes(3)}, {pushes(4)}}, aid.Goes([2]int{0, 2}, [2]int{1, 14}, [2]int{2, 3}, [2]int{1, 7}),
			"0 load c0: 131074; 0 load c1: 1; " +
				"1 load c0: 131074; 1 load c1: 1; 1 cas c0 131074 196609: 131074 ok; 1 load c2: 2; 1 load c3: 131072; 1 store c1 0: 1; 1 cas c3 131072 196610: 131072 ok; " +
				"1 load c0: 196609; 1 load c4: 0; 1 cas c0 196609 262144: 196609 ok; 1 load c5: 1; 1 load c3: 196610; 1 store c4 2: 0; 1 cas c3 196610 262145: 196610 ok; " +
				"2 load c3: 262145; 2 load c4: 2; 2 cas c3 262145 327682: 262145 ok; " +
				"1 load c3: 327682; 1 load c1: 0; 1 cas c3 327682 393216: 327682 ok; 1 store c2 3: 2; 1 load c0: 262144; 1 store c1 0: 0; 1 cas c0 262144 327682: 262144 ok; " +
				"2 store c5 4: 1; 0 cas c0 131074 196609: 327682 no; 2 load c0: 327682; 0 load c0: 327682; 2 store c4 2: 2; 0 load c1: 0; 2 cas c0 327682 393217: 327682 ok; 0 cas c0 327682 393216: 393217 no; " +
				"0 load c0: 393217; 0 load c4: 2; 0 cas c0 393217 458754: 393217 ok; 0 load c5: 4; 0 load c3: 393216; 0 store c4 0: 2; 0 cas c3 393216 458753: 393216 ok; " +
				"0 load c0: 458754; 0 load c1: 0; 0 cas c0 458754 524288: 458754 ok; 0 load c2: 3; 0 load c3: 458753; 0 store c1 1: 0; 0 cas c3 458753 524290: 458753 ok",
			[][]answer{{popped(4), popped(3)}, {popped(2), popped(1), okay}, {okay}}},
		{"the only node", size{1, 0}, one, [][]call{{pops}, {pops, pushes(3)}}, aid.Goes([2]int{0, 2}, [2]int{1, 14}),
			"0 load c0: 65537; 0 load c1: 0; " +
				"1 load c0: 65537; 1 load c1: 0; 1 cas c0 65537 131072: 65537 ok; 1 load c2: 1; 1 load c3: 65536; 1 store c1 0: 0; 1 cas c3 65536 131073: 65536 ok; " +
				"1 load c3: 131073; 1 load c1: 0; 1 cas c3 131073 196608: 131073 ok; 1 store c2 3: 1; 1 load c0: 131072; 1 store c1 0: 0; 1 cas c0 131072 196609: 131072 ok; " +
				"0 cas c0 65537 131072: 196609 no; 0 load c0: 196609; 0 load c1: 0; 0 cas c0 196609 262144: 196609 ok; 0 load c2: 3; 0 load c3: 196608; 0 store c1 0: 0; 0 cas c3 196608 262145: 196608 ok",
			[][]answer{{popped(3)}, {popped(1), okay}}},
		{"as the tag goes round", size{1, -3}, one, [][]call{{pops}, {pops, pushes(3)}}, aid.Goes([2]int{0, 2}, [2]int{1, 14}),
			"0 load c0: -131071; 0 load c1: 0; " +
				"1 load c0: -131071; 1 load c1: 0; 1 cas c0 -131071 -65536: -131071 ok; 1 load c2: 1; 1 load c3: -131072; 1 store c1 0: 0; 1 cas c3 -131072 -65535: -131072 ok; " +
				"1 load c3: -65535; 1 load c1: 0; 1 cas c3 -65535 0: -65535 ok; 1 store c2 3: 1; 1 load c0: -65536; 1 store c1 0: 0; 1 cas c0 -65536 1: -65536 ok; " +
				"0 cas c0 -131071 -65536: 1 no; 0 load c0: 1; 0 load c1: 0; 0 cas c0 1 65536: 1 ok; 0 load c2: 3; 0 load c3: 0; 0 store c1 0: 0; 0 cas c3 0 65537: 0 ok",
			[][]answer{{popped(3)}, {popped(1), okay}}},
		{"a free node", size{3, 0}, nil, [][]call{{pushes(7)}, {pushes(8), pops}, {pushes(9)}}, aid.Goes([2]int{0, 2}, [2]int{1, 3}, [2]int{2, 7}, [2]int{1, 11}),
			"0 load c0: 1; 0 load c1: 2; " +
				"1 load c0: 1; 1 load c1: 2; 1 cas c0 1 65538: 1 ok; " +
				"2 load c0: 65538; 2 load c2: 3; 2 cas c0 65538 131075: 65538 ok; 2 store c3 9: 0; 2 load c4: 0; 2 store c2 0: 3; 2 cas c4 0 65538: 0 ok; " +
				"1 store c5 8: 0; 1 load c4: 65538; 1 store c1 2: 2; 1 cas c4 65538 131073: 65538 ok; " +
				"1 load c4: 131073; 1 load c1: 2; 1 cas c4 131073 196610: 131073 ok; 1 load c5: 8; 1 load c0: 131075; 1 store c1 3: 2; 1 cas c0 131075 196609: 131075 ok; " +
				"0 cas c0 1 65538: 196609 no; 0 load c0: 196609; 0 load c1: 3; 0 cas c0 196609 262147: 196609 ok; 0 store c5 7: 8; 0 load c4: 196610; 0 store c1 2: 3; 0 cas c4 196610 262145: 196610 ok",
			[][]answer{{okay}, {okay, popped(8)}, {okay}}},
		{"on which one is to be laid", size{2, 0}, one, [][]call{{pushes(7)}, {pops, pushes(3)}}, aid.Goes([2]int{0, 6}, [2]int{1, 14}),
			"0 load c0: 65538; 0 load c1: 0; 0 cas c0 65538 131072: 65538 ok; 0 store c2 7: 0; 0 load c3: 65537; 0 store c1 1: 0; " +
				"1 load c3: 65537; 1 load c4: 0; 1 cas c3 65537 131072: 65537 ok; 1 load c5: 1; 1 load c0: 131072; 1 store c4 0: 0; 1 cas c0 131072 196609: 131072 ok; " +
				"1 load c0: 196609; 1 load c4: 0; 1 cas c0 196609 262144: 196609 ok; 1 store c5 3: 1; 1 load c3: 131072; 1 store c4 0: 0; 1 cas c3 131072 196609: 131072 ok; " +
				"0 cas c3 65537 131074: 196609 no; 0 load c3: 196609; 0 store c1 1: 1; 0 cas c3 196609 262146: 196609 ok",
			[][]answer{{okay}, {popped(1), okay}}},
		{"no node is free any more when what was free is looked into", size{1, 0}, nil, [][]call{{pushes(7)}, {pushes(8)}}, aid.Goes([2]int{0, 1}, [2]int{1, 7}),
			"0 load c0: 1; " +
				"1 load c0: 1; 1 load c1: 0; 1 cas c0 1 65536: 1 ok; 1 store c2 8: 0; 1 load c3: 0; 1 store c1 0: 0; 1 cas c3 0 65537: 0 ok; " +
				"0 load c1: 0; 0 cas c0 1 65536: 65536 no; 0 load c0: 65536",
			[][]answer{{full}, {okay}}},
	} {
		m.look(t)
	}
}

// TestAmongOthers: threads that meet in the midst of their calls.
func TestAmongOthers(t *testing.T) {
	one, two := []call{pushes(1)}, []call{pushes(1), pushes(2)}
	for _, m := range []meeting{
		{"who reads of a node that is another's", size{2, 0}, two, [][]call{{pops}, {pops}}, aid.Goes([2]int{0, 1}, [2]int{1, 7}),
			"0 load c0: 131074; " +
				"1 load c0: 131074; 1 load c1: 1; 1 cas c0 131074 196609: 131074 ok; 1 load c2: 2; 1 load c3: 131072; 1 store c1 0: 1; 1 cas c3 131072 196610: 131072 ok; " +
				"0 load c1: 0; 0 cas c0 131074 196608: 196609 no; 0 load c0: 196609; 0 load c4: 0; 0 cas c0 196609 262144: 196609 ok; 0 load c5: 1; 0 load c3: 196610; 0 store c4 2: 0; 0 cas c3 196610 262145: 196610 ok",
			[][]answer{{popped(1)}, {popped(2)}}},
		{"a Push is forestalled as it gets", size{2, 0}, nil, [][]call{{pushes(7)}, {pushes(8)}}, aid.Goes([2]int{0, 2}, [2]int{1, 3}, [2]int{0, 8}),
			"0 load c0: 1; 0 load c1: 2; 1 load c0: 1; 1 load c1: 2; 1 cas c0 1 65538: 1 ok; " +
				"0 cas c0 1 65538: 65538 no; 0 load c0: 65538; 0 load c2: 0; 0 cas c0 65538 131072: 65538 ok; 0 store c3 7: 0; 0 load c4: 0; 0 store c2 0: 0; 0 cas c4 0 65538: 0 ok; " +
				"1 store c5 8: 0; 1 load c4: 65538; 1 store c1 2: 2; 1 cas c4 65538 131073: 65538 ok",
			[][]answer{{okay}, {okay}}},
		{"and then no node is free", size{1, 0}, nil, [][]call{{pushes(7)}, {pushes(8)}}, aid.Goes([2]int{0, 2}, [2]int{1, 3}, [2]int{0, 2}),
			"0 load c0: 1; 0 load c1: 0; 1 load c0: 1; 1 load c1: 0; 1 cas c0 1 65536: 1 ok; 0 cas c0 1 65536: 65536 no; 0 load c0: 65536; " +
				"1 store c2 8: 0; 1 load c3: 0; 1 store c1 0: 0; 1 cas c3 0 65537: 0 ok",
			[][]answer{{full}, {okay}}},
		{"a Push is forestalled as it lays: the last who does is on top", size{2, 0}, nil, [][]call{{pushes(7)}, {pushes(8)}}, aid.Goes([2]int{0, 6}, [2]int{1, 7}),
			"0 load c0: 1; 0 load c1: 2; 0 cas c0 1 65538: 1 ok; 0 store c2 7: 0; 0 load c3: 0; 0 store c1 0: 2; " +
				"1 load c0: 65538; 1 load c4: 0; 1 cas c0 65538 131072: 65538 ok; 1 store c5 8: 0; 1 load c3: 0; 1 store c4 0: 0; 1 cas c3 0 65538: 0 ok; " +
				"0 cas c3 0 65537: 65538 no; 0 load c3: 65538; 0 store c1 2: 0; 0 cas c3 65538 131073: 65538 ok",
			[][]answer{{okay}, {okay}}},
		{"a Pop is forestalled as it gets, and then nothing is there", size{2, 0}, one, [][]call{{pops}, {pops}}, aid.Goes([2]int{0, 2}, [2]int{1, 3}, [2]int{0, 2}),
			"0 load c0: 65537; 0 load c1: 0; 1 load c0: 65537; 1 load c1: 0; 1 cas c0 65537 131072: 65537 ok; 0 cas c0 65537 131072: 131072 no; 0 load c0: 131072; " +
				"1 load c2: 1; 1 load c3: 65538; 1 store c1 2: 0; 1 cas c3 65538 131073: 65538 ok",
			[][]answer{{no}, {popped(1)}}},
		{"a Pop is forestalled as it gets, and another value is there", size{2, 0}, one, [][]call{{pops}, {pushes(5)}}, aid.Goes([2]int{0, 2}, [2]int{1, 7}),
			"0 load c0: 65537; 0 load c1: 0; " +
				"1 load c2: 65538; 1 load c3: 0; 1 cas c2 65538 131072: 65538 ok; 1 store c4 5: 0; 1 load c0: 65537; 1 store c3 1: 0; 1 cas c0 65537 131074: 65537 ok; " +
				"0 cas c0 65537 131072: 131074 no; 0 load c0: 131074; 0 load c3: 1; 0 cas c0 131074 196609: 131074 ok; 0 load c4: 5; 0 load c2: 131072; 0 store c3 0: 1; 0 cas c2 131072 196610: 131072 ok",
			[][]answer{{popped(5)}, {okay}}},
		{"a Pop is forestalled as it lays", size{2, 0}, two, [][]call{{pops}, {pops}}, aid.Goes([2]int{0, 6}, [2]int{1, 7}),
			"0 load c0: 131074; 0 load c1: 1; 0 cas c0 131074 196609: 131074 ok; 0 load c2: 2; 0 load c3: 131072; 0 store c1 0: 1; " +
				"1 load c0: 196609; 1 load c4: 0; 1 cas c0 196609 262144: 196609 ok; 1 load c5: 1; 1 load c3: 131072; 1 store c4 0: 0; 1 cas c3 131072 196609: 131072 ok; " +
				"0 cas c3 131072 196610: 196609 no; 0 load c3: 196609; 0 store c1 1: 0; 0 cas c3 196609 262146: 196609 ok",
			[][]answer{{popped(2)}, {popped(1)}}},
		{"a Pop in its midst holds a node", size{1, 0}, one, [][]call{{pops}, {pushes(5), pops, pushes(6)}}, aid.Goes([2]int{0, 3}, [2]int{1, 2}, [2]int{0, 4}),
			"0 load c0: 65537; 0 load c1: 0; 0 cas c0 65537 131072: 65537 ok; 1 load c2: 65536; 1 load c0: 131072; 0 load c3: 1; 0 load c2: 65536; 0 store c1 0: 0; 0 cas c2 65536 131073: 65536 ok; " +
				"1 load c2: 131073; 1 load c1: 0; 1 cas c2 131073 196608: 131073 ok; 1 store c3 6: 1; 1 load c0: 131072; 1 store c1 0: 0; 1 cas c0 131072 196609: 131072 ok",
			[][]answer{{popped(1)}, {full, no, okay}}},
		{"a value is there when its node is laid, not ahead of that", size{1, 0}, nil, [][]call{{pushes(7)}, {pops, pops}}, aid.Goes([2]int{0, 6}, [2]int{1, 1}, [2]int{0, 1}),
			"0 load c0: 1; 0 load c1: 0; 0 cas c0 1 65536: 1 ok; 0 store c2 7: 0; 0 load c3: 0; 0 store c1 0: 0; 1 load c3: 0; 0 cas c3 0 65537: 0 ok; " +
				"1 load c3: 65537; 1 load c1: 0; 1 cas c3 65537 131072: 65537 ok; 1 load c2: 7; 1 load c0: 65536; 1 store c1 0: 0; 1 cas c0 65536 131073: 65536 ok",
			[][]answer{{okay}, {no, popped(7)}}},
		{"who has a node is not disturbed by others", size{3, 0}, two, [][]call{{pops}, {pushes(5), pops, pops, pushes(6)}}, aid.Goes([2]int{0, 3}, [2]int{1, 28}),
			"0 load c0: 131074; 0 load c1: 1; 0 cas c0 131074 196609: 131074 ok; " +
				"1 load c2: 131075; 1 load c3: 0; 1 cas c2 131075 196608: 131075 ok; 1 store c4 5: 0; 1 load c0: 196609; 1 store c3 1: 0; 1 cas c0 196609 262147: 196609 ok; " +
				"1 load c0: 262147; 1 load c3: 1; 1 cas c0 262147 327681: 262147 ok; 1 load c4: 5; 1 load c2: 196608; 1 store c3 0: 1; 1 cas c2 196608 262147: 196608 ok; " +
				"1 load c0: 327681; 1 load c5: 0; 1 cas c0 327681 393216: 327681 ok; 1 load c6: 1; 1 load c2: 262147; 1 store c5 3: 0; 1 cas c2 262147 327681: 262147 ok; " +
				"1 load c2: 327681; 1 load c5: 3; 1 cas c2 327681 393219: 327681 ok; 1 store c6 6: 1; 1 load c0: 393216; 1 store c5 0: 3; 1 cas c0 393216 458753: 393216 ok; " +
				"0 load c7: 2; 0 load c2: 393219; 0 store c1 3: 1; 0 cas c2 393219 458754: 393219 ok",
			[][]answer{{popped(2)}, {okay, popped(5), popped(1), okay}}},
	} {
		m.look(t)
	}
}

// TestLate: a thread that stands at whatever access of a call, while another one makes all kinds of calls, that bring the nodes back in each order.
func TestLate(t *testing.T) {
	others := [][]call{
		{pops, pushes(5)}, {pushes(5), pops}, {pops, pops, pushes(5), pushes(6)}, {pushes(5), pops, pops, pushes(6)}, {pops, pops, pops},
		{pushes(5), pushes(6), pushes(7), pushes(8)}, {pops, pushes(5), pops, pushes(6), pops, pushes(7)}, {pops, pops, pops, pushes(5), pushes(6), pushes(7), pops, pops, pops},
	}
	again := 0
	for n := 1; n <= 4; n++ {
		for has := range n + 1 {
			for _, c := range []call{pushes(9), pops} {
				for _, other := range others {
					for stands := range 8 {
						for _, tag := range []int64{0, -2, lastTag - 1} {
							w := newWorld(size{n, tag}, fills(n)[:has], [][]call{{c, pops}, other})
							r := w.run(t, aid.Goes([2]int{0, stands}, [2]int{1, 7 * len(other)}), api.MaxTurns)
							if t.Failed() || r.End != api.Over {
								t.Fatalf("of %d, with %d values, tag %d: %v stands at %d, beside %v: %s", n, has, tag, c, stands, other, aid.Texts(r.Log))
							}
							for _, d := range w.did {
								if slices.ContainsFunc(d.vain, d.sameNode(r.Log)) {
									again++
								}
							}
						}
					}
				}
			}
		}
	}
	if again < 100 {
		t.Errorf("the calls are no good: %d times a node comes back", again)
	}
}

// TestAnew: whoever is forestalled goes round again, however often.
func TestAnew(t *testing.T) {
	const times = 100
	for _, row := range []struct {
		what  string
		c     call
		first int // so many turns ahead of it
		want  answer
	}{
		{"a Push, as it gets", pushes(9), 0, okay},
		{"a Push, as it lays", pushes(9), 4, okay},
		{"a Pop, as it gets", pops, 0, popped(1)},
		{"a Pop, as it lays", pops, 4, popped(1)},
	} {
		for _, tag := range []int64{0, -times} {
			var other []call
			picks := aid.Goes([2]int{0, row.first})
			for range times {
				other = append(other, pushes(5), pops)
				picks = append(picks, aid.Goes([2]int{0, 2}, [2]int{1, 14}, [2]int{0, 1})...)
			}
			w := newWorld(size{3, tag}, []call{pushes(1)}, [][]call{{row.c}, other})
			r := w.run(t, picks, api.MaxTurns)
			if got := w.threads.Got[0]; r.End != api.Over || r.Turns != 17*times+7 || !slices.Equal(got, []answer{row.want}) || len(w.did[0].vain) != times {
				t.Errorf("P8.2, P8.3: %s, tag %d: %d turns, %d times in vain: %v", row.what, tag, r.Turns, len(w.did[0].vain), got)
			}
		}
	}
}

// TestMany: so many threads that go by turns, at their accesses all at one time: all end, each has what he is to have.
func TestMany(t *testing.T) {
	const threads, each = 32, 4
	for _, n := range []int{1, threads / 2, threads, threads * each} {
		calls := slices.Repeat([][]call{nil}, threads)
		for h := range calls {
			for i := range each {
				calls[h] = append(calls[h], pushes(int64(each*h+i)), pops)
			}
		}
		w := newWorld(size{n: n}, nil, calls)
		r := gate.Run(nil, api.MaxTurns, w.threads.Bodies()...)
		ends, faults := w.threads.Ends(r, w.held)
		if l := append(faults, w.follows(len(r.Log), ends)...); len(l) > 0 || r.End != api.Over {
			t.Errorf("what follows: of %d nodes: end %d: %v", n, r.End, l)
		}
		for h, got := range w.threads.Got {
			for i, a := range got {
				if n >= threads && (a == full || i%2 == 1 && a == no) {
					t.Errorf("what follows: of %d nodes: the call number %d of the thread %d: %v", n, i, h, a)
				}
			}
		}
	}
}

// TestStopped: a thread that is stopped at whatever access of a call: the gate's own panic comes out of it, then and at each later call, and nothing is changed but by what was done: the node that it holds is nobody else's for good.
func TestStopped(t *testing.T) {
	later := []call{pops, pops, pops, pushes(4), pushes(5), pushes(6), pops, pops, pops}
	asOne := []answer{popped(7), no, no, okay, okay, full, popped(5), popped(4), no}
	asTwo := []answer{popped(8), popped(7), no, okay, okay, full, popped(5), popped(4), no}
	held := []answer{popped(7), no, no, okay, full, full, popped(4), no, no}
	empty := []answer{no, no, no, okay, full, full, popped(4), no, no}
	for _, row := range []struct {
		first  []call
		c      call
		stands []string   // at which access it is stopped, when it had so many turns
		later  [][]answer // what free calls are answered then
	}{
		{[]call{pushes(7)}, pushes(9), []string{"0 load c-1: 65538", "0 load c-1: 0", "0 cas c0 65538 131072: 65538 no", "0 store c-1 9: 0", "0 load c-1: 65537", "0 store c1 1: 0", "0 cas c3 65537 131074: 65537 no"},
			[][]answer{asOne, asOne, asOne, held, held, held, held}},
		{[]call{pushes(7), pushes(8)}, pushes(9), []string{"0 load c-1: 131072"}, [][]answer{asTwo}},
		{[]call{pushes(7), pushes(8)}, pops, []string{"0 load c-1: 131074", "0 load c-1: 1", "0 cas c0 131074 196609: 131074 no", "0 load c-1: 8", "0 load c-1: 131072", "0 store c1 0: 1", "0 cas c3 131072 196610: 131072 no"},
			[][]answer{asTwo, asTwo, asTwo, held, held, held, held}},
		{[]call{pushes(7)}, pops, []string{"0 load c-1: 65537", "0 load c-1: 0", "0 cas c0 65537 131072: 65537 no", "0 load c-1: 7", "0 load c-1: 65538", "0 store c1 2: 0", "0 cas c3 65538 131073: 65538 no"},
			[][]answer{asOne, asOne, asOne, empty, empty, empty, empty}},
		{[]call{pushes(7), pops}, pops, []string{"0 load c-1: 131072"}, [][]answer{slices.Concat([]answer{no}, asOne[1:])}},
	} {
		for turns, stands := range row.stands {
			s := size{n: 2}.stack()
			all(s, nil, row.first...)
			at, faults := aid.Stops(turns, func(t *gate.Thread, c call) { do(s, t, c) }, row.c, pushes(3), pops, pushes(3))
			if at != stands || len(faults) != 0 {
				t.Errorf("R1: %+v, %d turns: it stands at %s: %v", row.c, turns, at, faults)
			}
			if got := all(s, nil, later...); !slices.Equal(got, row.later[turns]) {
				t.Errorf("R1, what follows: %+v, %d turns: then %v, not %v", row.c, turns, got, row.later[turns])
			}
		}
	}
}

// TestFallen: a body that falls beside its calls leaves the stack as it is.
func TestFallen(t *testing.T) {
	s := size{n: 2}.stack()
	r := gate.Run([]int{0, 1}, 99, func(t *gate.Thread) {
		defer s.Push(t, 8)
		s.Push(t, 7)
		panic("x")
	}, func(t *gate.Thread) { s.Pop(t) })
	if got := all(s, nil, pops, pops, pops); !slices.Equal(r.Fell, []int{0}) || r.End != api.Over || !slices.Equal(got, []answer{popped(8), popped(7), no}) {
		t.Errorf("what follows: %v: %+v", got, r)
	}
}
