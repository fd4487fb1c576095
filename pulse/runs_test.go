package pulse

import (
	"math/rand/v2"
	"slices"
	"testing"

	"stopline/api"
)

// holdRun holds Run against the slow reading, against Next tick by tick, and against looking back alone.
func holdRun(t *testing.T, p api.Pulse, raw []bool, hold int) []bool {
	t.Helper()
	last, said, e := Run(p, raw, hold)
	want, list, f := slowRun(p, raw, hold)
	if last != want || !slices.Equal(said, list) || e != f {
		t.Fatal(p, told(raw), hold, "told", last, told(said), e, "not", want, told(list), f)
	}
	q := p
	for i, x := range raw {
		var g api.Errno
		if q, g = Next(q, x, hold); g != api.OK || q.Up != said[i] || q.Raw != x {
			t.Fatal("Next", p, told(raw[:i+1]), hold, q, g)
		}
		if q.Since != min(sameFor(p, raw, i), top) {
			t.Fatal("Since", p, told(raw[:i+1]), hold, q)
		}
	}
	if q != last {
		t.Fatal("Next", p, told(raw), hold, q, last)
	}
	return said
}

func holdSaid(t *testing.T, p api.Pulse, raw []bool, hold int, said []bool) {
	t.Helper()
	for i, x := range said {
		if x != saidBy(p, raw, hold, i) {
			t.Fatal(p, told(raw[:i+1]), hold, told(said))
		}
	}
}

// turns are the ticks at which another thing is said than ahead of them.
func turns(p api.Pulse, said []bool) []int {
	var list []int
	says := p.Up
	for i, x := range said {
		if x != says {
			list = append(list, i)
		}
		says = x
	}
	return list
}

// holdTurns asks P11.4 of what was said: a turn comes only when that has lasted for hold ticks, at the first one at which it has, and hold ticks behind the one ahead; and tells how many there were.
func holdTurns(t *testing.T, p api.Pulse, raw []bool, hold int, said []bool) int {
	t.Helper()
	list := turns(p, said)
	for k, i := range list {
		if said[i] != raw[i] || sameFor(p, raw, i) < hold {
			t.Fatal("a turn to what has not lasted", p, told(raw), hold, i)
		}
		if i > 0 && sameFor(p, raw, i) > hold {
			t.Fatal("a turn that comes late", p, told(raw), hold, i)
		}
		if k > 0 && i-list[k-1] < hold {
			t.Fatal("two turns that are near", p, told(raw), hold, list)
		}
	}
	for i, x := range said {
		if x != raw[i] && sameFor(p, raw, i) >= hold {
			t.Fatal("what has lasted is not said", p, told(raw), hold, i)
		}
	}
	return len(list)
}

// P11.2, P11.4: every short list of ticks, behind pulses of all kinds, with holds up to past its end.
func TestEveryShortRun(t *testing.T) {
	lists := every(8)
	for hold := 1; hold <= 10; hold++ {
		for _, p := range pulses(0, 1, 2, hold-1, hold, hold+1, 11, top-1, top) {
			for _, raw := range lists {
				said := holdRun(t, p, raw, hold)
				holdSaid(t, p, raw, hold, said)
				holdTurns(t, p, raw, hold, said)
			}
		}
	}
}

// P11.2, P11.4: many long lists, whose spells are shorter, as long, and longer than hold.
func TestLongRuns(t *testing.T) {
	source := rand.New(rand.NewPCG(11, 1))
	many := 0
	for range 300 {
		hold := 1 + source.IntN(40)
		if source.IntN(10) == 0 {
			hold = []int{api.MaxScript, top - 1, top}[source.IntN(3)]
		}
		p := pulses(0, 1, hold-1, hold, source.IntN(top), top-1, top)[source.IntN(28)]
		raw := trembling(source, source.IntN(api.MaxScript+1), 1+source.IntN(60))
		said := holdRun(t, p, raw, hold)
		many += holdTurns(t, p, raw, hold, said)
		if len(raw) < 500 {
			holdSaid(t, p, raw, hold, said)
		}
	}
	if many < 3000 {
		t.Error("few turns", many)
	}
}

// P11.4: with hold 1 it says what the detector says, whatever went ahead.
func TestHoldOfOne(t *testing.T) {
	source := rand.New(rand.NewPCG(11, 2))
	for _, p := range pulses(0, 1, 2, 1000, top-1, top) {
		for _, raw := range every(9) {
			if _, said, e := Run(p, raw, 1); !slices.Equal(said, raw) || e != api.OK {
				t.Fatal(p, told(raw), told(said), e)
			}
		}
		raw := trembling(source, api.MaxScript, 7)
		if last, said, e := Run(p, raw, 1); !slices.Equal(said, raw) || last.Up != raw[len(raw)-1] || e != api.OK {
			t.Fatal(p, told(raw), told(said), e)
		}
		for _, x := range []bool{false, true} {
			if q, e := Next(p, x, 1); q.Up != x || e != api.OK {
				t.Fatal(p, x, q, e)
			}
		}
	}
}

// P11.4: spells of what it does not say are not seen as long as each is shorter than hold, however many there are; one that is as long is seen at its last tick.
func TestWhatIsNotSeen(t *testing.T) {
	for _, says := range []bool{false, true} {
		for hold := 2; hold <= 30; hold++ {
			p := api.Pulse{Up: says, Raw: says, Since: hold}
			var raw []bool
			for long := 1; long < hold; long++ {
				for short := 1; short <= 3; short++ {
					raw = append(raw, slices.Repeat([]bool{!says}, long)...)
					raw = append(raw, slices.Repeat([]bool{says}, short)...)
				}
			}
			raw = raw[:min(len(raw), api.MaxScript)]
			last, said, e := Run(p, raw, hold)
			if e != api.OK || slices.Contains(said, !says) || last.Up != says {
				t.Fatal(says, hold, last, told(said), e)
			}
			_, said, e = Run(api.Pulse{Up: says, Raw: says, Since: 1}, slices.Repeat([]bool{!says}, hold), hold)
			if e != api.OK || slices.Index(said, !says) != hold-1 {
				t.Fatal(says, hold, told(said), e)
			}
		}
	}
}

// P11.4: turns that are as near as may be lie just hold ticks apart.
func TestNearestTurns(t *testing.T) {
	for _, hold := range []int{1, 2, 3, 17, 64, 1000} {
		var raw []bool
		for i := range api.MaxScript {
			raw = append(raw, i/hold%2 == 0)
		}
		_, said, e := Run(api.Pulse{}, raw, hold)
		list := turns(api.Pulse{}, said)
		if e != api.OK || len(list) != api.MaxScript/hold {
			t.Fatal(hold, list, e)
		}
		for k, i := range list {
			if i != (k+1)*hold-1 {
				t.Fatal(hold, k, i)
			}
		}
	}
}

// P11.1, P11.4: a pulse that was handed in past hold with Up unlike Raw turns at the next tick that says the same, and is no nearer to a turn than any other behind one that does not.
func TestHandedInUnlike(t *testing.T) {
	for _, says := range []bool{false, true} {
		for _, hold := range []int{1, 2, 3, 50, top - 1, top} {
			for _, since := range []int{hold, min(hold+1, top), top - 1, top} {
				p := api.Pulse{Up: !says, Raw: says, Since: max(since, hold)}
				q, e := Next(p, says, hold)
				if e != api.OK || q != (api.Pulse{Up: says, Raw: says, Since: min(p.Since+1, top)}) {
					t.Error(p, hold, q, e)
				}
				if q, e = Next(p, !says, hold); e != api.OK || q != (api.Pulse{Up: !says, Raw: !says, Since: 1}) {
					t.Error(p, hold, q, e)
				}
				q, e = Next(q, says, hold)
				if e != api.OK || q != (api.Pulse{Up: says == (hold == 1), Raw: says, Since: 1}) {
					t.Error(p, hold, q, e)
				}
			}
		}
	}
}

// P11.1, W8: Since counts up to MaxTicks and stays there, while Up follows just at hold.
func TestSinceStops(t *testing.T) {
	for _, says := range []bool{false, true} {
		for _, hold := range []int{1, top / 2, top - 1, top} {
			p := api.Pulse{Up: !says, Raw: !says, Since: top}
			for tick := 1; tick <= top+1000; tick++ {
				var e api.Errno
				p, e = Next(p, says, hold)
				if want := (api.Pulse{Up: says == (tick >= hold), Raw: says, Since: min(tick, top)}); p != want || e != api.OK {
					t.Fatal(hold, tick, p, e)
				}
			}
			if q, e := Next(p, !says, hold); q != (api.Pulse{Up: says == (hold > 1), Raw: !says, Since: 1}) || e != api.OK {
				t.Error(hold, q, e)
			}
		}
	}
}

// P11.2, W8: Run counts as Next does, over as many ticks as bring Since to MaxTicks and past it.
func TestSinceStopsInRuns(t *testing.T) {
	p, raw := api.Pulse{}, slices.Repeat([]bool{true}, api.MaxScript)
	for ticks := api.MaxScript; ticks <= top+2*api.MaxScript; ticks += api.MaxScript {
		last, said, e := Run(p, raw, top)
		if want := (api.Pulse{Up: ticks >= top, Raw: true, Since: min(ticks, top)}); last != want || e != api.OK {
			t.Fatal(ticks, last, e)
		}
		if first := slices.Index(said, true); ticks == top && first != api.MaxScript-1 || ticks > top && first != 0 || ticks < top && first != -1 {
			t.Fatal(ticks, first)
		}
		p = last
	}
}

// inPieces runs ticks cut ahead of each of these places.
func inPieces(t *testing.T, p api.Pulse, raw []bool, hold int, cuts []int) (api.Pulse, []bool) {
	t.Helper()
	var all []bool
	from := 0
	for _, to := range append(slices.Clip(cuts), len(raw)) {
		var said []bool
		var e api.Errno
		if p, said, e = Run(p, raw[from:to], hold); e != api.OK {
			t.Fatal(e)
		}
		all = append(all, said...)
		from = to
	}
	return p, all
}

// P11.4: short runs in every way to cut them, and long ones in many, with pieces of no ticks among them.
func TestPieces(t *testing.T) {
	hold := func(p api.Pulse, raw []bool, long int, cuts []int) {
		t.Helper()
		last, said, _ := Run(p, raw, long)
		if q, all := inPieces(t, p, raw, long, cuts); q != last || !slices.Equal(all, said) {
			t.Fatal(p, told(raw), long, cuts, q, told(all), last, told(said))
		}
	}
	for _, raw := range every(7) {
		for set := range 1 << max(len(raw)-1, 0) {
			var cuts []int
			for i := 1; i < len(raw); i++ {
				if set>>(i-1)&1 != 0 {
					cuts = append(cuts, i)
				}
			}
			for _, p := range []api.Pulse{{}, {Up: true, Since: 1}, {Raw: true, Since: top}} {
				for _, long := range []int{1, 2, 3, 5} {
					hold(p, raw, long, cuts)
				}
			}
		}
	}
	source := rand.New(rand.NewPCG(11, 3))
	for range 300 {
		raw := trembling(source, source.IntN(api.MaxScript+1), 1+source.IntN(30))
		cuts := []int{0, len(raw)}
		for range source.IntN(40) {
			cuts = append(cuts, source.IntN(len(raw)+1))
		}
		slices.Sort(cuts)
		hold(pulses(0, 3, top)[source.IntN(12)], raw, 1+source.IntN(20), cuts)
	}
}

// Ticks that are left midway end there, and each range goes through them from the first one on.
func TestTicksRangedOver(t *testing.T) {
	all := ticks(api.Pulse{}, bits("1101"), 2)
	for range 2 {
		many := 0
		for p := range all {
			many++
			if p == (api.Pulse{Up: true, Raw: true, Since: 2}) {
				break
			}
		}
		if many != 2 {
			t.Error(many)
		}
	}
}
