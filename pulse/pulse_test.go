package pulse

import (
	"slices"
	"testing"

	"stopline/api"
)

// The numbers that the document gives.
func TestGivenNumbers(t *testing.T) {
	if top != 1048576 || api.MaxScript != 4096 || api.ErrArg != 2 || api.ErrMany != 4 || api.ErrBad != 8 || api.OK != 0 {
		t.Error(top, api.MaxScript, int(api.ErrArg), int(api.ErrMany), int(api.ErrBad), int(api.OK))
	}
}

// Every row of the chapter's examples.
func TestExamples(t *testing.T) {
	p := api.Pulse{}
	for i, c := range []struct {
		raw  bool
		want api.Pulse
	}{{true, api.Pulse{Raw: true, Since: 1}}, {true, api.Pulse{Up: true, Raw: true, Since: 2}}, {false, api.Pulse{Up: true, Since: 1}}} {
		var e api.Errno
		if p, e = Next(p, c.raw, 2); p != c.want || e != api.OK {
			t.Error(i, p, e)
		}
	}
	p, said, e := Run(api.Pulse{}, bits("101110100"), 2)
	if told(said) != "000111110" || p != (api.Pulse{Since: 2}) || e != api.OK {
		t.Error(p, told(said), e)
	}
	for _, p := range pulses(0, 1, 5, top) {
		if q, e := Next(p, true, 0); q != (api.Pulse{}) || e != api.ErrArg {
			t.Error(p, q, e)
		}
	}
	for _, p := range pulses(-1) {
		if q, e := Next(p, true, 1); q != (api.Pulse{}) || e != api.ErrBad {
			t.Error(p, q, e)
		}
	}
}

// P11.1: what stands in a pulse a tick later, written out.
func TestNextByHand(t *testing.T) {
	const no, yes = false, true
	for i, c := range []struct {
		p    api.Pulse
		raw  bool
		hold int
		want api.Pulse
	}{
		{api.Pulse{}, no, 1, api.Pulse{Since: 1}},
		{api.Pulse{}, yes, 1, api.Pulse{Up: yes, Raw: yes, Since: 1}},
		{api.Pulse{}, no, 2, api.Pulse{Since: 1}},
		{api.Pulse{Raw: yes}, yes, 1, api.Pulse{Up: yes, Raw: yes, Since: 1}},
		{api.Pulse{Raw: yes}, yes, 2, api.Pulse{Raw: yes, Since: 1}},
		{api.Pulse{Raw: yes}, no, 2, api.Pulse{Since: 1}},
		{api.Pulse{Up: yes}, no, 2, api.Pulse{Up: yes, Since: 1}},
		// One tick short of hold, and just at it.
		{api.Pulse{Raw: yes, Since: 5}, yes, 7, api.Pulse{Raw: yes, Since: 6}},
		{api.Pulse{Raw: yes, Since: 6}, yes, 7, api.Pulse{Up: yes, Raw: yes, Since: 7}},
		{api.Pulse{Up: yes, Since: 5}, no, 7, api.Pulse{Up: yes, Since: 6}},
		{api.Pulse{Up: yes, Since: 6}, no, 7, api.Pulse{Since: 7}},
		{api.Pulse{Raw: yes, Since: 6}, no, 7, api.Pulse{Since: 1}},
		{api.Pulse{Up: yes, Raw: yes, Since: 6}, no, 7, api.Pulse{Up: yes, Since: 1}},
		// Past hold, with Up unlike Raw.
		{api.Pulse{Raw: yes, Since: 7}, yes, 7, api.Pulse{Up: yes, Raw: yes, Since: 8}},
		{api.Pulse{Raw: yes, Since: 7}, no, 7, api.Pulse{Since: 1}},
		{api.Pulse{Up: yes, Since: 100}, no, 7, api.Pulse{Since: 101}},
		{api.Pulse{Up: yes, Since: 100}, yes, 7, api.Pulse{Up: yes, Raw: yes, Since: 1}},
		{api.Pulse{Up: yes, Since: 100}, yes, 1, api.Pulse{Up: yes, Raw: yes, Since: 1}},
		{api.Pulse{Raw: yes, Since: 100}, no, 1, api.Pulse{Since: 1}},
		// At the top of Since and of hold.
		{api.Pulse{Raw: yes, Since: top - 2}, yes, top, api.Pulse{Raw: yes, Since: top - 1}},
		{api.Pulse{Raw: yes, Since: top - 1}, yes, top, api.Pulse{Up: yes, Raw: yes, Since: top}},
		{api.Pulse{Raw: yes, Since: top}, yes, top, api.Pulse{Up: yes, Raw: yes, Since: top}},
		{api.Pulse{Up: yes, Since: top}, no, top, api.Pulse{Since: top}},
		{api.Pulse{Up: yes, Since: top}, no, 1, api.Pulse{Since: top}},
		{api.Pulse{Up: yes, Raw: yes, Since: top}, no, top, api.Pulse{Up: yes, Since: 1}},
		{api.Pulse{Up: yes, Raw: yes, Since: top}, no, 1, api.Pulse{Since: 1}},
	} {
		if p, e := Next(c.p, c.raw, c.hold); p != c.want || e != api.OK {
			t.Error(i, c, p, e)
		}
	}
}

// P11.1: every pulse at the edges of Since, with every hold at its edges, against the slow reading.
func TestNextAtTheEdges(t *testing.T) {
	for _, hold := range append(goodHolds(), badHolds()...) {
		for _, p := range pulses(sinces(hold)...) {
			for _, raw := range []bool{false, true} {
				q, e := Next(p, raw, hold)
				if want, f := slowNext(p, raw, hold); q != want || e != f {
					t.Error(p, raw, hold, "told", q, e, "not", want, f)
				}
			}
		}
	}
}

// asked is what an error hangs on: a pulse's Since, how many ticks there are, and hold.
type asked struct{ since, many, hold int }

// holdErrors holds Run and Next against an error that is known, with any bits in the pulse.
func holdErrors(t *testing.T, c asked, next, run api.Errno) {
	t.Helper()
	for _, p := range pulses(c.since) {
		if q, e := Next(p, true, c.hold); e != next || e != api.OK && q != (api.Pulse{}) {
			t.Error("Next", c, q, e)
		}
		if q, e := Next(p, false, c.hold); e != next || e != api.OK && q != (api.Pulse{}) {
			t.Error("Next", c, q, e)
		}
		for _, raw := range [][]bool{make([]bool, c.many), slices.Repeat([]bool{true}, c.many)} {
			q, said, e := Run(p, raw, c.hold)
			if e != run || e != api.OK && (q != (api.Pulse{}) || len(said) != 0) || e == api.OK && len(said) != c.many {
				t.Error("Run", c, q, len(said), e)
			}
		}
	}
}

// P11.1, P11.2: which error is told, where one, two or all three would hold; nothing is told beside it.
func TestWhichErrorIsTold(t *testing.T) {
	few, many := []int{0, 1, 2, api.MaxScript - 1, api.MaxScript}, []int{api.MaxScript + 1, api.MaxScript + 2, 20000}
	good := []int{0, 1, 2, top - 1, top}
	for _, hold := range goodHolds() {
		for _, n := range few {
			for _, since := range good {
				holdErrors(t, asked{since, n, hold}, api.OK, api.OK)
			}
			for _, since := range badSinces() {
				holdErrors(t, asked{since, n, hold}, api.ErrBad, api.ErrBad)
			}
		}
	}
	for _, n := range many {
		holdErrors(t, asked{0, n, 1}, api.OK, api.ErrMany)
		holdErrors(t, asked{top, n, top}, api.OK, api.ErrMany)
	}
	for _, hold := range badHolds() {
		for _, since := range good {
			for _, n := range few {
				holdErrors(t, asked{since, n, hold}, api.ErrArg, api.ErrArg)
			}
			holdErrors(t, asked{since, many[0], hold}, api.ErrArg, api.ErrMany)
		}
		for _, since := range badSinces() {
			holdErrors(t, asked{since, 0, hold}, api.ErrBad, api.ErrBad)
			holdErrors(t, asked{since, 1, hold}, api.ErrBad, api.ErrBad)
			holdErrors(t, asked{since, many[0], hold}, api.ErrBad, api.ErrBad)
		}
	}
	for _, since := range badSinces() {
		holdErrors(t, asked{since, many[0], 1}, api.ErrBad, api.ErrBad)
		holdErrors(t, asked{since, many[1], top}, api.ErrBad, api.ErrBad)
	}
}

// P11.2: behind no ticks a pulse is as it was, whatever stands in it, and nothing was said.
func TestNoTicks(t *testing.T) {
	for _, hold := range goodHolds() {
		for _, p := range pulses(0, 1, 2, hold-1, hold, min(hold+1, top), top-1, top) {
			for _, raw := range [][]bool{nil, {}, make([]bool, 0, 9)} {
				if q, said, e := Run(p, raw, hold); q != p || len(said) != 0 || e != api.OK {
					t.Error(p, hold, q, said, e)
				}
			}
		}
	}
}

// P11.2: as many ticks as there may be are all gone through; one more is too many, however much room there is.
func TestAsManyTicksAsMayBe(t *testing.T) {
	room := slices.Repeat([]bool{true}, 3*api.MaxScript)
	for _, hold := range []int{1, 2, api.MaxScript - 1, api.MaxScript, api.MaxScript + 1, top} {
		p, said, e := Run(api.Pulse{}, room[:api.MaxScript], hold)
		up := hold <= api.MaxScript
		if e != api.OK || p != (api.Pulse{Up: up, Raw: true, Since: api.MaxScript}) || len(said) != api.MaxScript {
			t.Fatal(hold, p, len(said), e)
		}
		for i, x := range said {
			if x != (i+1 >= hold) {
				t.Fatal(hold, i, x)
			}
		}
		if p, said, e := Run(api.Pulse{}, room[:api.MaxScript+1], hold); e != api.ErrMany || p != (api.Pulse{}) || len(said) != 0 {
			t.Error(hold, p, len(said), e)
		}
	}
}

// P11.2: written-out ticks and what is said behind each.
func TestRunByHand(t *testing.T) {
	for i, c := range []struct {
		p         api.Pulse
		hold      int
		raw, want string
		last      api.Pulse
	}{
		{api.Pulse{}, 1, "101110100", "101110100", api.Pulse{Since: 2}},
		{api.Pulse{}, 3, "101110100", "000011111", api.Pulse{Up: true, Since: 2}},
		{api.Pulse{}, 3, "1011101000", "0000111110", api.Pulse{Since: 3}},
		{api.Pulse{}, 4, "11110000", "00011110", api.Pulse{Since: 4}},
		{api.Pulse{}, 5, "1", "0", api.Pulse{Raw: true, Since: 1}},
		{api.Pulse{Raw: true, Since: 1}, 3, "11", "01", api.Pulse{Up: true, Raw: true, Since: 3}},
		{api.Pulse{Raw: true, Since: 2}, 3, "1000", "1110", api.Pulse{Since: 3}},
		{api.Pulse{Raw: true, Since: 2}, 3, "0111", "0001", api.Pulse{Up: true, Raw: true, Since: 3}},
		{api.Pulse{Up: true, Since: 9}, 3, "0", "0", api.Pulse{Since: 10}},
		{api.Pulse{Up: true, Since: 9}, 3, "100", "111", api.Pulse{Up: true, Since: 2}},
		{api.Pulse{Up: true, Since: 9}, 3, "1000", "1110", api.Pulse{Since: 3}},
		{api.Pulse{Up: true, Since: top}, top, "0001000", "0000000", api.Pulse{Since: 3}},
		{api.Pulse{Up: true, Raw: true, Since: top}, top, "1110001", "1111111", api.Pulse{Up: true, Raw: true, Since: 1}},
	} {
		p, said, e := Run(c.p, bits(c.raw), c.hold)
		if p != c.last || told(said) != c.want || e != api.OK {
			t.Error(i, p, told(said), e)
		}
	}
}
