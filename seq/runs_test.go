package seq

import (
	"math"
	"math/rand/v2"
	"slices"
	"testing"

	"stopline/api"
)

// outer is what is called and which gaps there are, tick by tick.
type outer func(tick int) (calls, gaps uint32)

// outers are some kinds of them: all and nothing, by turns, and by chance.
func outers(source *rand.Rand) []outer {
	return []outer{
		func(int) (uint32, uint32) { return math.MaxUint32, 0 },
		func(int) (uint32, uint32) { return math.MaxUint32, math.MaxUint32 },
		func(int) (uint32, uint32) { return 0, 0 },
		func(int) (uint32, uint32) { return 0, math.MaxUint32 },
		func(tick int) (uint32, uint32) { return 1 << uint(tick%9), 1 << uint(tick%7) },
		func(int) (uint32, uint32) { return source.Uint32(), source.Uint32() },
		func(int) (uint32, uint32) {
			return source.Uint32() & source.Uint32() & source.Uint32(), source.Uint32() & source.Uint32()
		},
	}
}

// ticksTillFull goes through ticks by the gate till a phase is full: at most so many and one more.
func ticksTillFull(t *testing.T, s api.Site, q api.Seq, now api.Safe, phase, most int, world outer) int {
	t.Helper()
	ticks := 0
	for ; ticks <= most && !slowFull(s, now, phase); ticks++ {
		calls, gaps := world(ticks)
		next, asks, e := Next(s, q, now, calls, gaps)
		if e != api.OK {
			t.Fatal(e)
		}
		q, now = next, shown(s, now, asks)
	}
	return ticks
}

// P16.4: a phase that is called in each tick is full behind at most Bound ticks, from standings behind many random asks and from any that goes on, from any place, whatever else is called and whatever the gaps are, by bits and by Always.
func TestCalledIsServed(t *testing.T) {
	source := rand.New(rand.NewPCG(16, 4))
	list := append(smallSites(), crowded(), together())
	for range 70 {
		list = append(list, anySite(source, true))
	}
	served, waited := 0, 0
	for _, s := range list {
		bound := holdBound(t, s)
		for _, world := range outers(source) {
			phase := source.IntN(len(s.Phases))
			here, own := s, uint32(1)<<uint(phase)
			if source.IntN(3) == 0 {
				// Always is call enough.
				here, own = always(s, own), 0
			}
			called := func(tick int) (uint32, uint32) {
				calls, gaps := world(tick)
				return calls | own, gaps
			}
			for _, now := range []api.Safe{behindAsks(source, here), anyStanding(source, here)} {
				ticks := ticksTillFull(t, here, anyPlace(source, here), now, phase, bound, called)
				if ticks > bound {
					t.Fatal("not served", phase, bound, now)
				}
				served++
				if ticks > slowWorst(here) {
					waited++
				}
			}
		}
	}
	if served < 1000 || waited < 100 {
		t.Error("few waited for others", served, waited)
	}
}

// P16.4: the one that comes last, while all others last as long as they may: it is served, and not much ahead of the bound.
func TestLastOfAll(t *testing.T) {
	for _, s := range []api.Site{crowded(), three(), lasting(example(), 2, 400, 3, 400), lasting(quick(), 1, 900, 1, 900)} {
		bound := holdBound(t, s)
		for phase := range s.Phases {
			// Just behind it begins the one that comes first.
			q := api.Seq{Phase: (phase + 1) % len(s.Phases)}
			all := func(int) (uint32, uint32) { return math.MaxUint32, 0 }
			ticks := ticksTillFull(t, s, q, allRed(s), phase, bound, all)
			others := 0
			for i, p := range s.Phases {
				if i != phase {
					others += p.Max
				}
			}
			if ticks > bound || ticks < others {
				t.Error(phase, ticks, others, bound)
			}
		}
	}
}

// allRed is a standing in which all are red, and nothing is to be waited for.
func allRed(s api.Site) api.Safe {
	now := first(s)
	now.Start = 0
	return now
}

// P16.4 hangs on the call: a phase that nobody calls is passed over, though the others go by turns.
func TestNotCalledIsNotServed(t *testing.T) {
	s := three()
	now := filled(s, 0)
	q := api.Seq{}
	for range 500 {
		next, asks := holdNext(t, s, q, now, 2|1, math.MaxUint32)
		q, now = next, shown(s, now, asks)
		if q.Phase == 2 || slowFull(s, now, 2) {
			t.Fatal("nobody called it", q, now)
		}
	}
}

// stint is how a phase was wanted from when it was told till another one was: for how many ticks it was full.
type stint struct {
	phase, full int
	whole       bool // from its beginning to its end
}

// stintsOf goes through many ticks by the gate, holding each against the slow reading.
func stintsOf(t *testing.T, s api.Site, q api.Seq, now api.Safe, ticks int, world outer) []stint {
	t.Helper()
	list, one := []stint{}, stint{phase: q.Phase, whole: q.Since == 0}
	for tick := range ticks {
		calls, gaps := world(tick)
		if slowFull(s, now, q.Phase) {
			one.full++
		} else if one.full > 0 {
			t.Fatal("full no more, though it is wanted", q, now)
		}
		next, asks := holdNext(t, s, q, now, calls, gaps)
		if next.Phase != q.Phase {
			list, one = append(list, one), stint{phase: next.Phase, whole: true}
		}
		q, now = next, shown(s, now, asks)
	}
	one.whole = false
	return append(list, one)
}

// P16.5: while a phase is full it is wanted for Min ticks at least, and, if another one is called in each tick, for Max ticks at most.
func TestHowLongItIsWanted(t *testing.T) {
	source := rand.New(rand.NewPCG(16, 5))
	list := smallSites()
	for range 50 {
		list = append(list, anySite(source, true))
	}
	shortest, longest := 0, 0
	for _, s := range list {
		for i, world := range outers(source) {
			q := anyPlace(source, s)
			for _, one := range stintsOf(t, s, q, anyStanding(source, s), 120, world) {
				p := s.Phases[one.phase]
				if one.whole && one.full < p.Min {
					t.Fatal("left too early", one, p)
				}
				// Of the first two all phases are called in each tick.
				if i < 2 && len(s.Phases) > 1 && one.full > p.Max {
					t.Fatal("left too late", one, p)
				}
				if one.whole && one.full == p.Min && p.Min < p.Max {
					shortest++
				}
				if one.whole && one.full == p.Max && p.Min < p.Max {
					longest++
				}
			}
		}
	}
	if shortest < 300 || longest < 300 {
		t.Error("seldom", shortest, longest)
	}
}

// P16.5: one other that is called in each tick is enough, whichever it is, and by Always likewise; with its gap it goes at Min, without at Max.
func TestOneOtherIsEnough(t *testing.T) {
	for _, s := range []api.Site{three(), example(), free(), crowded(), lasting(example(), 2, 2, 3, 3)} {
		for phase, p := range s.Phases {
			for other := range s.Phases {
				if other == phase {
					continue
				}
				for _, gap := range []bool{false, true} {
					want, gaps := p.Max, uint32(0)
					if gap {
						want, gaps = p.Min, uint32(1)<<uint(phase)
					}
					calls := uint32(1) << uint(other)
					q, now := api.Seq{Phase: phase}, filled(s, phase)
					holdLeaves(t, always(s, 0), q, now, calls, gaps, want, other)
					holdLeaves(t, always(s, calls), q, now, 0, gaps, want, other)
				}
			}
		}
	}
}

// holdLeaves holds that a phase that is full is left for another one in just this tick, from 1 on, and not ahead of it.
func holdLeaves(t *testing.T, s api.Site, q api.Seq, now api.Safe, calls, gaps uint32, tick, other int) {
	t.Helper()
	phase := q.Phase
	for i := 1; i < tick; i++ {
		next, asks, e := Next(s, q, now, calls, gaps)
		if next != (api.Seq{Phase: phase, Since: i}) || e != api.OK {
			t.Fatal("at", i, "of", tick, next, e)
		}
		q, now = next, shown(s, now, asks)
	}
	if next, asks, e := Next(s, q, now, calls, gaps); next != (api.Seq{Phase: other}) || e != api.OK || !slices.Equal(asks, slowAsks(s, other)) {
		t.Fatal("at", tick, next, asks, e)
	}
}

// P16.5: where no two phases share a group, lights tell the same: each green of a whole phase lasts from Min to Max ticks.
func TestHowLongLightsLast(t *testing.T) {
	source := rand.New(rand.NewPCG(16, 6))
	seen := 0
	for range 60 {
		s := anySite(source, false)
		if len(s.Phases) < 2 {
			continue
		}
		for _, world := range outers(source)[:2] {
			now, q := first(s), api.Seq{}
			lasts := make([]int, len(s.Phases))
			for tick := range 150 {
				calls, gaps := world(tick)
				next, asks := holdNext(t, s, q, now, calls, gaps)
				q, now = next, shown(s, now, asks)
				for phase, p := range s.Phases {
					if slowFull(s, now, phase) {
						lasts[phase]++
						continue
					}
					if n := lasts[phase]; n > 0 {
						seen++
						if n < p.Min || n > p.Max {
							t.Fatal(phase, n, p)
						}
					}
					lasts[phase] = 0
				}
			}
		}
	}
	if seen < 300 {
		t.Error("few greens", seen)
	}
}

// P16.1, W4: random places, standings, calls and gaps of random sites, also ones with errors.
func TestAnything(t *testing.T) {
	source := rand.New(rand.NewPCG(16, 1))
	kinds := map[string]int{}
	for range 200 {
		s := anySite(source, true)
		holdBound(t, s)
		for range 150 {
			q, now := anyPlace(source, s), anyStanding(source, s)
			if source.IntN(2) == 0 {
				now = filled(s, q.Phase)
			}
			switch source.IntN(20) {
			case 0:
				phases := phasesAround(len(s.Phases))
				q.Phase = phases[source.IntN(len(phases))]
			case 1:
				q.Since = anyCount(source)
			case 2:
				now.Groups = now.Groups[source.IntN(len(now.Groups)):]
			}
			next, _ := holdNext(t, s, q, now, source.Uint32()&source.Uint32(), source.Uint32())
			if e := slowError(s, q, now); e != api.OK {
				kinds["error"]++
				continue
			}
			kinds[kindOf(q, next)]++
		}
	}
	for _, kind := range []string{"error", "left", "begun", "counted"} {
		if kinds[kind] < 1000 {
			t.Error("seldom", kind, kinds)
		}
	}
}
