package plan

import (
	"math"
	"math/rand/v2"
	"slices"
	"testing"

	"stopline/api"
	"stopline/site"
)

// The errors and limits by their numbers, and the sites of the tests.
func TestGivenNumbers(t *testing.T) {
	if api.ErrArg != 2 || api.ErrPlan != 170 || api.ErrSite != 50 || api.MaxPhases != 8 || top != 1048576 || api.MaxCounter != 1073741824 {
		t.Error("numbers of package api")
	}
	for i, s := range goodSites() {
		if e := site.Check(s); e != api.OK {
			t.Error("a site that should be", i, e)
		}
	}
	for i, s := range badSites() {
		if e := site.Check(s); e != api.ErrSite {
			t.Error("a site that should not be", i, e)
		}
	}
}

func planOf(cycle, offset int, splits ...int) api.Plan {
	return api.Plan{Cycle: cycle, Offset: offset, Splits: splits}
}

// Every row of the chapter's Examples.
func TestExamples(t *testing.T) {
	s := example()
	for i, c := range []struct{ given, want api.Plan }{
		{planOf(40, -1, 20, 20), planOf(40, 39, 20, 20)},
		{planOf(5, 0), planOf(30, 0, 23, 7)},
		{planOf(30, 0, 6, 9, 9), planOf(30, 0, 11, 19)},
	} {
		if got, e := Clamp(s, c.given); !samePlan(got, c.want) || e != api.OK {
			t.Error(i, got, e)
		}
	}
	p := planOf(40, 3, 20, 20)
	for _, c := range []struct{ tick, phase, into int }{{2, 1, 19}, {3, 0, 0}, {22, 0, 19}, {23, 1, 0}} {
		if phase, into, e := At(s, p, c.tick); phase != c.phase || into != c.into || e != api.OK {
			t.Error(c.tick, phase, into, e)
		}
	}
	for _, c := range []struct{ tick, want int }{{3, 0}, {19, 0}, {20, 1}, {23, 1}, {2, 0}} {
		if got, e := Wants(s, p, c.tick); got != c.want || e != api.OK {
			t.Error(c.tick, got, e)
		}
	}
}

// P17.1: by hand.
func TestClampByHand(t *testing.T) {
	const least, greatest = math.MinInt, math.MaxInt
	for i, c := range []struct {
		s           api.Site
		given, want api.Plan
	}{
		// Shares are rounded down; what is left comes to the first phase that wishes.
		{three(), planOf(16, 0, 3, 3, 3), planOf(16, 0, 6, 5, 5)}, {three(), planOf(17, 0, 2, 3, 3), planOf(17, 0, 2, 8, 7)}, {three(), planOf(16, 0, 4, 3, 2), planOf(16, 0, 9, 5, 2)}, {three(), planOf(16, 0, 3, 4, 2), planOf(16, 0, 6, 8, 2)}, {three(), planOf(16, 0, 2, 2, 3), planOf(16, 0, 2, 2, 12)}, {three(), planOf(17, 0, 0, 9, 4), planOf(17, 0, 2, 11, 4)}, {three(), planOf(8, 0, 3, 3, 3), planOf(8, 0, 4, 2, 2)}, {three(), planOf(8, 0, -3, 3, 40), planOf(8, 0, 2, 3, 3)},
		// No wish at all: phase 0 has the rest.
		{three(), planOf(16, 0, 2, 2, 2), planOf(16, 0, 12, 2, 2)}, {three(), planOf(16, 0), planOf(16, 0, 12, 2, 2)}, {three(), planOf(16, 0, least, -1, 1), planOf(16, 0, 12, 2, 2)}, {three(), planOf(6, 0, 9, 9, 9), planOf(6, 0, 2, 2, 2)}, {three(), planOf(6, 0, 0, 0, 0, 40), planOf(6, 0, 2, 2, 2)},
		// Those that are not given count as 0, those beyond the phases for nothing.
		{three(), planOf(16, 0, 0, 5), planOf(16, 0, 2, 12, 2)}, {three(), planOf(16, 0, 3), planOf(16, 0, 12, 2, 2)}, {three(), planOf(16, 0, 2, 2, 2, 9, greatest), planOf(16, 0, 12, 2, 2)},
		// A split counts as High at most.
		{three(), planOf(16, 0, 1000, 2, 40), planOf(16, 0, 7, 2, 7)}, {three(), planOf(16, 0, greatest, 41, 40), planOf(16, 0, 6, 5, 5)}, {three(), planOf(40, 0, 40, 39, 2), planOf(40, 0, 20, 18, 2)}, {three(), planOf(40, 0, greatest, greatest, greatest), planOf(40, 0, 14, 13, 13)},
		// Other least parts: 5, 5 and 4.
		{uneven(), planOf(18, 0, 6, 6, 5), planOf(18, 0, 7, 6, 5)}, {uneven(), planOf(18, 0, 4, 5, 5), planOf(18, 0, 5, 5, 8)}, {uneven(), planOf(14, 0, 5, 5, 4), planOf(15, 0, 6, 5, 4)},
		// The cycle, and the offset by the cycle that is told, not by the one given.
		{three(), planOf(least, 41, 2, 2, 2), planOf(6, 5, 2, 2, 2)}, {three(), planOf(greatest, 41, 9, 2, 2), planOf(40, 1, 36, 2, 2)}, {three(), planOf(5, -1, 2, 2, 2), planOf(6, 5, 2, 2, 2)}, {three(), planOf(8, least), planOf(8, 0, 4, 2, 2)}, {three(), planOf(8, greatest), planOf(8, 7, 4, 2, 2)}, {three(), planOf(7, least), planOf(7, 6, 3, 2, 2)}, {three(), planOf(10, greatest), planOf(10, 7, 6, 2, 2)}, {three(), planOf(10, least), planOf(10, 2, 6, 2, 2)},
		// One phase has all.
		{alone(), planOf(0, 0), planOf(2, 0, 2)}, {alone(), planOf(9, 9, 1), planOf(7, 2, 7)}, {alone(), planOf(5, -5, greatest, 3), planOf(5, 0, 5)}, {still(), planOf(-1, -1), planOf(top, top-1, top)}, {still(), planOf(greatest, greatest, least), planOf(top, top-1, top)},
		// The greatest ones.
		{wide(), planOf(0, top, 9, 9), planOf(top, 0, top-2, 2)}, {upToTop(pair()), planOf(greatest, 0, greatest, greatest), planOf(top, 0, top/2, top/2)}, {upToTop(pair()), planOf(top, 0, top, 3), planOf(top, 0, top-2, 2)}, {upToTop(pair()), planOf(top-1, 0, greatest, top), planOf(top-1, 0, top/2, top/2-1)}, {upToTop(pair()), planOf(top, 1<<40, 1<<40, 0), planOf(top, 0, top-2, 2)},
	} {
		if got, e := Clamp(c.s, c.given); !samePlan(got, c.want) || e != api.OK {
			t.Errorf("%d: %+v, %d; not %+v", i, got, e, c.want)
		}
		holdClamp(t, c.s, c.given)
	}
}

// P17.1, P17.4: every plan of small sites, in and around what may be.
func TestClampOfEveryPlan(t *testing.T) {
	for _, s := range []api.Site{alone(), pair(), cycling(three(), 0, 3), cycling(half(), 1, 2), cycling(three(), 2, 0)} {
		kept, changed := 0, 0
		splits := make([]int, len(s.Phases))
		var from func(phase int)
		from = func(phase int) {
			if phase < len(splits) {
				for n := -1; n <= s.High+1; n++ {
					// Of three phases some of what is far from the least part is left out.
					if len(splits) < 3 || n <= slowLeast(s, phase)+2 || n >= s.High {
						splits[phase] = n
						from(phase + 1)
					}
				}
				return
			}
			for cycle := s.Low - 1; cycle <= s.High+1; cycle++ {
				// Far below 0, below it, below the cycle, and above it.
				for _, offset := range []int{-2*s.High - 1, -(kept + changed) % s.Low, (kept + changed) % s.Low, s.High + 1} {
					given := planOf(cycle, offset, splits...)
					if got := holdClamp(t, s, given); samePlan(got, given) {
						kept++
					} else {
						changed++
					}
				}
			}
		}
		from(0)
		if kept == 0 || changed < 10 {
			t.Error("seldom", kept, changed)
		}
	}
}

// P17.1: the edges of the cycle and of the offset, by each other.
func TestClampAtEdgesOfCycles(t *testing.T) {
	for _, s := range goodSites() {
		for _, cycle := range cyclesAround(s) {
			for _, offset := range append(offsetsAround(slowCycle(s, cycle)), offsetsAround(s.Low)...) {
				holdClamp(t, s, planOf(cycle, offset))
				holdClamp(t, s, planOf(cycle, offset, s.High, 1, s.High))
			}
		}
	}
}

// P17.1: the edges of the splits: one of them, all but one, and all; fewer than the phases, and more.
func TestClampAtEdgesOfSplits(t *testing.T) {
	for _, s := range goodSites() {
		for _, cycle := range []int{math.MinInt, s.Low, s.Low + 1, s.High, math.MaxInt} {
			for phase := range s.Phases {
				for i, split := range splitsAround(s, phase) {
					for n := range 2 * api.MaxPhases {
						holdClamp(t, s, api.Plan{Cycle: cycle, Splits: slices.Repeat([]int{split}, n)})
					}
					for _, other := range []int{math.MinInt, 0, slowLeast(s, phase) + 1, s.High, math.MaxInt} {
						list := slices.Repeat([]int{other}, len(s.Phases)+i%2)
						list[phase] = split
						holdClamp(t, s, api.Plan{Cycle: cycle, Splits: list})
					}
				}
			}
			holdClamp(t, s, api.Plan{Cycle: cycle})
			holdClamp(t, s, api.Plan{Cycle: cycle, Splits: []int{}})
			holdClamp(t, s, api.Plan{Cycle: cycle, Splits: make([]int, 5000)})
		}
	}
}

// P17.1: any plans of any sites, with splits of every size.
func TestClampOfAnything(t *testing.T) {
	source := rand.New(rand.NewPCG(17, 1))
	left := 0
	for range 300 {
		s := anySite(source, false)
		if source.IntN(3) == 0 {
			s = upToTop(s)
		}
		for range 30 {
			p := api.Plan{Cycle: anyNumber(source, s), Offset: anyNumber(source, s)}
			for range source.IntN(len(s.Phases) + 3) {
				p.Splits = append(p.Splits, anyNumber(source, s))
			}
			got := holdClamp(t, s, p)
			if hasLeft(s, p, got) {
				left++
			}
		}
	}
	if left < 500 {
		t.Error("seldom was something left", left)
	}
}

// hasLeft tells whether of the rest something was left by the shares.
func hasLeft(s api.Site, given, got api.Plan) bool {
	rest, all, shares := got.Cycle-slowRound(s), 0, 0
	for i := range s.Phases {
		all += slowWish(s, given, i)
	}
	for i := range s.Phases {
		if all > 0 {
			shares += rest * slowWish(s, given, i) / all
		}
	}
	return all > 0 && shares < rest
}

func anyNumber(source *rand.Rand, s api.Site) int {
	edges := []int{math.MinInt, -1, 0, 1, s.Low, s.High, s.High + 1, top, top + 1, math.MaxInt, int(source.Uint64())}
	if source.IntN(3) == 0 {
		return edges[source.IntN(len(edges))]
	}
	return source.IntN(s.High + 2)
}

// P17.4: a plan that may be is the one next to itself: all of small sites, many of others, and those that a site has.
func TestPlansThatMayBeStay(t *testing.T) {
	source := rand.New(rand.NewPCG(17, 4))
	seen := 0
	stays := func(s api.Site, p api.Plan) {
		t.Helper()
		if got := holdClamp(t, s, p); !samePlan(got, p) || !slowFits(s, p) {
			t.Fatalf("%+v: %+v", p, got)
		}
		seen++
	}
	for _, s := range []api.Site{alone(), pair(), cycling(three(), 0, 3), uneven(), cycling(free(), 0, 3), cycling(many(), 0, 2)} {
		for cycle := s.Low; cycle <= s.High; cycle++ {
			everyParted(s, cycle, func(splits []int) {
				for _, offset := range []int{0, 1, cycle / 2, cycle - 1} {
					stays(s, planOf(cycle, offset, splits...))
				}
			})
		}
	}
	for _, s := range goodSites() {
		for range 60 {
			stays(s, anyPlan(source, s))
		}
		for _, p := range s.Plans {
			stays(s, p)
		}
	}
	if seen < 1500 {
		t.Error("few plans", seen)
	}
}

// P17.2: every tick of some cycles, of every plan of small sites.
func TestAtOfEveryTick(t *testing.T) {
	kinds := map[bool]int{}
	for _, s := range []api.Site{alone(), pair(), cycling(three(), 0, 2), cycling(uneven(), 0, 2), cycling(free(), 0, 2), cycling(half(), 0, 2), cycling(many(), 0, 1)} {
		for cycle := s.Low; cycle <= s.High; cycle++ {
			everyParted(s, cycle, func(splits []int) {
				for offset := range cycle {
					p := planOf(cycle, offset, splits...)
					ticks := unrolled(s, p)
					for tick := -1; tick < 2*cycle+offset; tick++ {
						got := holdAt(t, s, p, ticks, tick)
						kinds[got.wants != got.phase]++
					}
				}
			})
		}
	}
	if kinds[true] < 5000 || kinds[false] < 5000 {
		t.Error("seldom", kinds)
	}
}

// P17.2: ticks at the edges of each part, of plans of all sites, and ticks that may not be.
func TestAtEdges(t *testing.T) {
	source := rand.New(rand.NewPCG(17, 2))
	for _, s := range goodSites() {
		plans := []api.Plan{anyPlan(source, s), anyPlan(source, s), anyPlan(source, s)}
		for _, cycle := range []int{s.Low, s.High} {
			for _, offset := range []int{0, 1, cycle - 1} {
				p, e := Clamp(s, planOf(cycle, offset))
				if e != api.OK {
					t.Fatal(e)
				}
				plans = append(plans, p)
			}
		}
		for _, p := range plans {
			cycle := unrolled(s, p)
			for _, tick := range append(ticksAround(p), badTicks()...) {
				holdAt(t, s, p, cycle, tick)
			}
			for phase, split := range p.Splits {
				clear, e := site.Clear(s, phase, slowNext(s, phase))
				if e != api.OK {
					t.Fatal(e)
				}
				begins := p.Offset
				for _, ahead := range p.Splits[:phase] {
					begins += ahead
				}
				for _, tick := range []int{begins + split - clear - 1, begins + split - clear, begins + split - 1} {
					holdAt(t, s, p, cycle, tick)
				}
			}
		}
	}
}

// P17.2: by hand, at the greatest tick and with the greatest cycle.
func TestAtByHand(t *testing.T) {
	for i, c := range []struct {
		s    api.Site
		p    api.Plan
		tick int
		want place
	}{
		{example(), planOf(40, 39, 20, 20), 0, place{0, 1, 0}}, {example(), planOf(40, 39, 20, 20), 38, place{1, 19, 0}}, {example(), planOf(40, 39, 20, 20), 39, place{0, 0, 0}},
		// The least parts: a phase is wanted for its Min alone.
		{example(), planOf(30, 0, 5, 25), 1, place{0, 1, 0}}, {example(), planOf(30, 0, 5, 25), 2, place{0, 2, 1}}, {example(), planOf(30, 0, 5, 25), 25, place{1, 20, 1}}, {example(), planOf(30, 0, 5, 25), 26, place{1, 21, 0}},
		// 2^30 by 40 leaves 24, by 39 leaves 25.
		{example(), planOf(40, 0, 20, 20), api.MaxCounter, place{1, 4, 1}}, {example(), planOf(40, 5, 20, 20), api.MaxCounter, place{0, 19, 1}}, {example(), planOf(39, 2, 19, 20), api.MaxCounter, place{1, 4, 1}}, {example(), planOf(39, 26, 19, 20), api.MaxCounter, place{1, 19, 0}},
		{still(), planOf(top, 0, top), api.MaxCounter, place{0, 0, 0}}, {still(), planOf(top, 1, top), api.MaxCounter, place{0, top - 1, 0}}, {still(), planOf(top, top-1, top), 0, place{0, 1, 0}},
		{wide(), planOf(top, 0, top-2, 2), 0, place{0, 0, 0}}, {wide(), planOf(top, 0, top-2, 2), 1, place{0, 1, 1}}, {wide(), planOf(top, 0, top-2, 2), top - 3, place{0, top - 3, 1}}, {wide(), planOf(top, 0, top-2, 2), top - 2, place{1, 0, 1}}, {wide(), planOf(top, 0, top-2, 2), top - 1, place{1, 1, 0}},
		// With nothing between no phase is wanted ahead of its part.
		{free(), planOf(8, 0, 2, 2, 2, 2), 1, place{0, 1, 0}}, {free(), planOf(8, 0, 2, 2, 2, 2), 7, place{3, 1, 3}}, {free(), planOf(4, 3, 1, 1, 1, 1), 2, place{3, 0, 3}}, {alone(), planOf(7, 0, 7), 6, place{0, 6, 0}}, {alone(), planOf(7, 6, 7), 5, place{0, 6, 0}},
	} {
		phase, into, e := At(c.s, c.p, c.tick)
		wants, f := Wants(c.s, c.p, c.tick)
		if got := (place{phase, into, wants}); got != c.want || e != api.OK || f != api.OK {
			t.Error(i, got, e, f)
		}
	}
}

// badPlans may not be one of a site: by the cycle, the offset, how many splits there are, one split, or their sum.
func badPlans(source *rand.Rand, s api.Site) []api.Plan {
	list := []api.Plan{{}}
	spoil := func(change func(p *api.Plan)) {
		p := anyPlan(source, s)
		if change(&p); !slowFits(s, p) {
			list = append(list, p)
		}
	}
	for _, cycle := range cyclesAround(s) {
		spoil(func(p *api.Plan) { p.Cycle = cycle })
		spoil(func(p *api.Plan) { p.Splits[0] += cycle - p.Cycle; p.Cycle = cycle })
	}
	for _, offset := range offsetsAround(s.High) {
		spoil(func(p *api.Plan) { p.Offset = offset })
	}
	spoil(func(p *api.Plan) { p.Offset = p.Cycle })
	spoil(func(p *api.Plan) { p.Splits = nil })
	spoil(func(p *api.Plan) { p.Splits = p.Splits[1:] })
	spoil(func(p *api.Plan) { p.Splits = append(p.Splits, 0) })
	spoil(func(p *api.Plan) { p.Splits = append(p.Splits, p.Splits...) })
	for phase := range s.Phases {
		for _, split := range splitsAround(s, phase) {
			spoil(func(p *api.Plan) { p.Splits[phase] = split })
			// Their sum is the cycle again, if it may wrap.
			spoil(func(p *api.Plan) {
				p.Splits[slowNext(s, phase)] += p.Splits[phase] - split
				p.Splits[phase] = split
			})
		}
		spoil(func(p *api.Plan) { p.Splits[phase]++ })
		spoil(func(p *api.Plan) { p.Splits[phase]-- })
	}
	return list
}

// P17.2: plans that may not be, ahead of ticks that may not be; sites that may not be, ahead of both; nothing is told beside an error.
func TestErrors(t *testing.T) {
	source := rand.New(rand.NewPCG(17, 3))
	for _, s := range goodSites() {
		bad := badPlans(source, s)
		if len(bad) < 30 {
			t.Error("few plans", len(bad))
		}
		for _, p := range bad {
			for _, tick := range append(badTicks(), 0, 1, s.Low, api.MaxCounter) {
				holdError(t, s, p, tick, api.ErrPlan)
			}
		}
		for range 5 {
			p := anyPlan(source, s)
			for _, tick := range badTicks() {
				holdError(t, s, p, tick, api.ErrArg)
			}
			for _, tick := range []int{0, api.MaxCounter} {
				if _, _, e := At(s, p, tick); e != api.OK {
					t.Fatal(p, tick, e)
				}
			}
		}
	}
	for i, s := range badSites() {
		for _, p := range []api.Plan{{}, planOf(40, 3, 20, 20), planOf(40, 40, 20, 20), planOf(math.MaxInt, math.MinInt, math.MaxInt), planOf(5, 0, 5), planOf(s.Low, 0, make([]int, len(s.Phases))...)} {
			for _, tick := range append(badTicks(), 0, 1, api.MaxCounter) {
				holdError(t, s, p, tick, api.ErrSite)
			}
			if got, e := Clamp(s, p); !samePlan(got, api.Plan{}) || got.Splits != nil || e != api.ErrSite {
				t.Error(i, got, e)
			}
		}
	}
}
