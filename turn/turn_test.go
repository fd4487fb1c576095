package turn

import (
	"math"
	"slices"
	"testing"

	"stopline/api"
	"stopline/site"
)

// The errors and limits by their numbers.
func TestGivenNumbers(t *testing.T) {
	if api.ErrArg != 2 || api.ErrMany != 4 || api.ErrBad != 8 || api.ErrSite != 50 || api.MaxScript != 4096 || top != 1048576 {
		t.Error("numbers of package api")
	}
	for i, s := range goodSites() {
		if e := site.Check(s); e != api.OK {
			t.Error("a site that should be", i, e)
		}
	}
	for i, s := range badSites() {
		if e := site.Check(s); e != api.ErrSite {
			t.Error("a site that should not be", i, e)
		}
	}
}

// Every row of the chapter's Examples.
func TestExamples(t *testing.T) {
	s := example()
	if got, e := Asks(s, 1); e != api.OK || !slices.Equal(got, []uint8{api.Red, api.Green, api.Green}) {
		t.Error("Asks of the second phase", got, e)
	}
	if got, e := Worst(s); e != api.OK || got != 9 {
		t.Error("Worst", got, e)
	}
	now := first(s)
	if got, e := Steps(s, now, 0); e != api.OK || got != 5 {
		t.Error("Steps at first, to the first phase", got, e)
	}
	now = behind(s, now, 0, 5)
	if got, e := Steps(s, now, 1); e != api.OK || got != 5 {
		t.Error("Steps behind that, to the second one", got, e)
	}
}

// P15.1: what phases ask, by hand.
func TestAsks(t *testing.T) {
	r, g := api.Red, api.Green
	for i, c := range []struct {
		s     api.Site
		phase int
		want  []uint8
	}{
		{example(), 0, []uint8{g, r, r}}, {example(), 1, []uint8{r, g, g}},
		{alone(), 0, []uint8{g}},
		{free(), 0, []uint8{g, r, r, r}}, {free(), 1, []uint8{r, g, g, r}}, {free(), 2, []uint8{g, g, g, g}}, {free(), 3, []uint8{g, g, r, r}},
		{shared(), 0, []uint8{g, r, g}}, {shared(), 1, []uint8{r, g, g}},
		{crowded(), 0, []uint8{g, r, r, r, r, r, r, r, g, r, r, r, r, r, r, r}}, {crowded(), 7, []uint8{r, r, r, r, r, r, r, g, r, r, r, r, r, r, r, g}},
		{together(), 0, slices.Repeat([]uint8{g}, 16)},
	} {
		if got, e := Asks(c.s, c.phase); e != api.OK || !slices.Equal(got, c.want) {
			t.Error(i, got, e)
		}
	}
}

// P15.1: each phase of each site, and each number around them.
func TestPhasesAround(t *testing.T) {
	for _, s := range goodSites() {
		for _, phase := range phasesAround(len(s.Phases)) {
			holdAsks(t, s, phase)
		}
		for phase := range s.Phases {
			holdAsks(t, s, phase)
		}
	}
}

// P15.1: the worst turn, by hand: a greatest Yellow above, at and below the greatest between; the greatest numbers; nothing apart.
func TestWorst(t *testing.T) {
	for i, c := range []struct {
		s    api.Site
		want int
	}{
		{example(), 3 + 4 + 2}, {alone(), 2 + 1 + 2}, {free(), 3 + 4 + 2}, {shared(), 4 + 3 + 2}, {quick(), 1 + 1 + 2},
		{beside(5, 4), 2 + 5 + 2}, {beside(5, 5), 2 + 5 + 2}, {beside(5, 6), 2 + 6 + 2}, {beside(1, top), 2 + top + 2}, {beside(4000, 3999), 2 + 4000 + 2},
		{far(), 1 + top + 2}, {long(), 2*top + 2}, {together(), 3 + 2 + 2}, {crowded(), 2 + 5 + 2},
		{siteOf(alike(1, 1, 1), square(1, none)), 4}, {siteOf(alike(1, top, 1), square(1, none)), top + 3}, {siteOf(alike(1, 1, top), square(1, none)), top + 3},
		{siteOf([]api.Group{group(9, 1), group(1, 8)}, square(2, none)), 9 + 8 + 2}, // the Min of one, the Yellow of another one
		{siteOf([]api.Group{group(1, 1), group(2, 2), group(3, 1)}, [][]int{{0, 0, 1}, {0, 0, 0}, {7, 0, 0}}), 3 + 7 + 2},
	} {
		if got, e := Worst(c.s); e != api.OK || got != c.want {
			t.Error(i, got, e)
		}
		holdWorst(t, c.s)
	}
}

// P15.1: which group has the greatest Min, which the greatest Yellow, which two the greatest between, does not matter.
func TestWorstWhereverItStands(t *testing.T) {
	for a := range api.MaxGroups {
		for b := range api.MaxGroups {
			groups := alike(api.MaxGroups, 1, 1)
			groups[a].Min, groups[b].Yellow = 9, 8
			s := siteOf(groups, square(api.MaxGroups, none))
			if got, e := Worst(s); e != api.OK || got != 19 {
				t.Fatal(a, b, got, e)
			}
			if a == b {
				continue
			}
			rows := square(api.MaxGroups, none)
			rows[a][b], rows[b][a] = 30, 9
			if got, e := Worst(siteOf(groups, rows)); e != api.OK || got != 41 {
				t.Fatal(a, b, got, e)
			}
		}
	}
}

// P15.2: every standing of a small site, whatever the other groups show, and whether it could go on or not.
func TestFullOfEveryStanding(t *testing.T) {
	aspects := []uint8{api.Dark, api.Red, api.Green, api.Yellow, api.Flash, 5, 255}
	for _, s := range []api.Site{example(), shared(), siteOf(alike(3, 1, 1), square(3, none), 1, 2, 4, 7, 6)} {
		many := 0
		for _, a := range aspects {
			for _, b := range aspects {
				for _, c := range aspects {
					for _, start := range []int{math.MinInt, -1, 0, 1, top, top + 1, math.MaxInt} {
						for _, flashes := range []bool{false, true} {
							now := api.Safe{Groups: []api.Seen{{Aspect: a, Since: start}, {Aspect: b, Ended: start}, {Aspect: c}}, Start: start, Flashed: flashes}
							for phase := range s.Phases {
								if holdFull(t, s, now, phase) {
									many++
								}
							}
						}
					}
				}
			}
		}
		if many < 190 {
			t.Error("seldom full", many)
		}
	}
}

// P15.2: by hand: one of the phase's groups that is anything but green is enough, others count for nothing.
func TestFull(t *testing.T) {
	for i, c := range []struct {
		s     api.Site
		text  string
		phase int
		want  bool
	}{
		{example(), "GRR", 0, true}, {example(), "GRR", 1, false}, {example(), "RGG", 1, true}, {example(), "RGR", 1, false}, {example(), "RRG", 1, false}, {example(), "RGY", 1, false}, {example(), "RGD", 1, false}, {example(), "GGG", 0, true}, {example(), "GGG", 1, true}, {example(), "FGG", 1, true}, {example(), "FFF", 0, false}, {example(), "YRR", 0, false},
		{alone(), "G", 0, true}, {alone(), "R", 0, false},
		{free(), "GGGG", 2, true}, {free(), "GGGR", 2, false}, {free(), "RGGG", 2, false}, {free(), "GGRR", 3, true}, {free(), "GGRR", 0, true}, {free(), "GGRR", 1, false},
		{together(), "GGGGGGGGGGGGGGGG", 0, true}, {together(), "GGGGGGGGGGGGGGGR", 0, false}, {together(), "RGGGGGGGGGGGGGGG", 0, false},
		{crowded(), "RRRRRRRGRRRRRRRG", 7, true}, {crowded(), "RRRRRRRGRRRRRRRR", 7, false}, {crowded(), "RRRRRRRRRRRRRRRG", 7, false},
	} {
		if got, e := Full(c.s, stands(c.text, 3, 0), c.phase); e != api.OK || got != c.want {
			t.Error(i, got, e)
		}
	}
}

// P15.2, P15.3: phases at their edges, of standings that go on.
func TestPhasesThatThereAreNot(t *testing.T) {
	for _, s := range goodSites() {
		for _, now := range []api.Safe{starting(first(s), 0), starting(first(s), 1), flashed(stands("FFFFFFFFFFFFFFFF"[:len(s.Groups)], 1, 1))} {
			for _, phase := range phasesAround(len(s.Phases)) {
				holdFull(t, s, now, phase)
				if !now.Flashed || slowGreatest(s) < 100 {
					holdSteps(t, s, now, phase)
				}
				if _, e := Steps(s, now, phase); !thereIs(s, phase) && e != api.ErrArg {
					t.Error(phase, e)
				}
			}
		}
	}
}

// P15.2, P15.3: standings without as many groups: no list, an empty one, one too few, one too many.
func TestStandingsThatAreNotAsMany(t *testing.T) {
	for _, s := range goodSites() {
		for _, n := range []int{0, len(s.Groups) - 1, len(s.Groups) + 1, 2*len(s.Groups) + 1, 32, 64} {
			for _, aspect := range []uint8{api.Red, api.Green, api.Flash} {
				now := api.Safe{Groups: slices.Repeat([]api.Seen{{Aspect: aspect, Since: 1, Ended: top}}, n), Flashed: aspect == api.Flash}
				holdBad(t, s, now)
			}
		}
		holdBad(t, s, api.Safe{})
		holdBad(t, s, api.Safe{Groups: []api.Seen{}})
	}
}

// holdBad holds that a standing is told to be bad, whatever the phase is.
func holdBad(t *testing.T, s api.Site, now api.Safe) {
	t.Helper()
	for _, phase := range phasesAround(len(s.Phases)) {
		if got, e := Full(s, now, phase); got || e != api.ErrBad {
			t.Error("Full", phase, got, e)
		}
		if got, e := Steps(s, now, phase); got != 0 || e != api.ErrBad {
			t.Error("Steps", phase, got, e)
		}
	}
}

// P15.3: standings with as many groups that do not go on: Steps refuses them ahead of the phase, Full does not mind.
func TestStandingsThatDoNotGoOn(t *testing.T) {
	green := stands("GRR", 2, 9)
	list := []api.Safe{
		stands("GGG", 2, 9), stands("GYR", 2, 9), stands("YRG", 2, 9), stands("FRR", 1, 1), stands("FFF", 1, 1), stands("DRR", 1, 1), stands("DDD", 1, 1),
		flashed(stands("RRR", 1, 1)), flashed(green), flashed(stands("FFR", 1, 1)), flashed(stands("RFF", 1, 1)),
		starting(green, 1), starting(green, top), starting(stands("RRY", 1, 1), 1), starting(stands("FFF", 1, 1), 1),
		{Groups: []api.Seen{{Aspect: 5}, {Aspect: api.Red}, {Aspect: api.Red}}}, {Groups: []api.Seen{{Aspect: api.Red}, {Aspect: api.Red}, {Aspect: 255}}},
	}
	for _, start := range []int{math.MinInt, -1 << 32, -1, top + 1, 1 << 32, math.MaxInt} {
		list = append(list, starting(green, start), starting(stands("RRR", 1, 1), start), starting(flashed(stands("FFF", 1, 1)), start))
	}
	for i, now := range list {
		for _, phase := range phasesAround(2) {
			if got, e := Steps(example(), now, phase); got != 0 || e != api.ErrBad {
				t.Error(i, phase, got, e)
			}
			holdFull(t, example(), now, phase)
		}
	}
}

// P15.1, P15.2, P15.3: a site that may not be is told ahead of all else, and nothing beside it.
func TestSitesThatMayNotBe(t *testing.T) {
	for i, s := range badSites() {
		if got, e := Worst(s); got != 0 || e != api.ErrSite {
			t.Error(i, got, e)
		}
		for _, phase := range phasesAround(len(s.Phases)) {
			if got, e := Asks(s, phase); len(got) != 0 || e != api.ErrSite {
				t.Error(i, phase, got, e)
			}
			for _, now := range []api.Safe{{}, {Groups: make([]api.Seen, len(s.Groups))}, stands("RRR", 1, top), stands("GRR", 1, 0), stands("RGG", 1, 0), stands("GGG", 1, 0), starting(stands("GRR", 1, 0), -1), flashed(stands("RRR", 1, 1))} {
				if got, e := Full(s, now, phase); got || e != api.ErrSite {
					t.Error(i, phase, got, e)
				}
				if got, e := Steps(s, now, phase); got != 0 || e != api.ErrSite {
					t.Error(i, phase, got, e)
				}
			}
		}
	}
}

// P15.1 to P15.3: with an error nothing is told beside it, also where a phase would be full.
func TestNothingBesideAnError(t *testing.T) {
	s, all := example(), stands("GGG", 2, 0)
	if got, e := Asks(s, 2); got != nil || e != api.ErrArg {
		t.Error(got, e)
	}
	if got, e := Full(s, all, 2); got || e != api.ErrArg {
		t.Error(got, e)
	}
	if got, e := Full(s, stands("GGGG", 2, 0), 0); got || e != api.ErrBad {
		t.Error(got, e)
	}
	if got, e := Steps(s, stands("GRR", 2, 0), 2); got != 0 || e != api.ErrArg {
		t.Error(got, e)
	}
	if got, e := Steps(s, starting(stands("RRR", 2, 0), 5000), 0); got != 0 || e != api.ErrMany {
		t.Error(got, e)
	}
}

type stepCase struct {
	s     api.Site
	now   api.Safe
	phase int
	want  int
}

func holdCases(t *testing.T, list []stepCase) {
	t.Helper()
	for i, c := range list {
		if got, e := Steps(c.s, c.now, c.phase); e != api.OK || got != c.want {
			t.Errorf("%d: %d, %d; not %d", i, got, e, c.want)
		}
		holdSteps(t, c.s, c.now, c.phase)
	}
}

// P15.3: by hand: from red, from the start, from green, from yellow, from flash.
func TestSteps(t *testing.T) {
	s := example()
	red, since := stands("RRR", 1, top), func(text string, n, ended int) api.Safe { return stands(text, n, ended) }
	holdCases(t, []stepCase{
		{s, red, 0, 1}, {s, red, 1, 1}, {s, starting(red, 1), 0, 2}, {s, starting(red, 4), 1, 5},
		{s, stands("GRR", 1, 0), 0, 0}, {s, stands("RGG", 1, 0), 1, 0},
		{s, stands("RGR", 1, top), 1, 1}, {s, stands("RRG", 1, top), 1, 1},
		// Green since 2 may turn yellow at once; the foot's green comes 3 ticks behind the last green.
		{s, stands("GRR", 2, top), 1, 4}, {s, stands("GRR", 1, top), 1, 5}, {s, stands("GRR", 0, top), 1, 6}, {s, stands("GRR", -5, top), 1, 6}, {s, stands("GRR", math.MaxInt, top), 1, 4},
		// The foot's Min is 3, and 4 must lie behind its green.
		{s, stands("RGG", 3, top), 0, 5}, {s, stands("RGG", 1, top), 0, 7}, {s, stands("RGR", 2, top), 0, 3}, {s, stands("RRG", 1, top), 0, 7},
		// Red that ended no long time ago.
		{s, since("RRR", 1, 0), 0, 5}, {s, since("RRR", 1, 3), 0, 2}, {s, since("RRR", 1, 4), 0, 1}, {s, since("RRR", 1, 0), 1, 4}, {s, since("RRR", 1, 3), 1, 1}, {s, since("RRR", 1, math.MinInt), 1, 4}, {s, since("RRR", 1, math.MaxInt), 1, 1},
		// Yellow ends, then comes a tick of red, then its own green.
		{s, since("YRR", 1, 1), 0, 4}, {s, since("YRR", 1, top), 0, 2}, {s, since("YRR", 0, top), 0, 3}, {s, since("RRY", 0, top), 1, 4}, {s, since("RRY", 1, top), 1, 3}, {s, since("RRY", 2, top), 1, 2}, {s, since("RGY", 2, top), 1, 2},
		// Another one's yellow bars up to its red.
		{s, since("RRY", 0, top), 0, 3}, {s, since("RRY", 2, top), 0, 1}, {s, since("RRY", 1, 1), 0, 4},
		// Flash: as many reds as the greatest between, whatever Start tells.
		{s, flashed(stands("FFF", 1, 1)), 0, 5}, {s, flashed(stands("FFF", 9, top)), 1, 5}, {s, starting(flashed(stands("FFF", 1, 0)), top), 1, 5}, {s, starting(flashed(stands("FFF", 1, 0)), 4), 0, 5},
		{alone(), flashed(stands("F", 1, 1)), 0, 2}, {alone(), stands("R", 1, 0), 0, 1}, {alone(), stands("Y", 1, 1), 0, 2}, {alone(), stands("G", 0, 0), 0, 0},
		{quick(), flashed(stands("FF", 1, 1)), 0, 2}, {quick(), stands("RG", 1, 5), 0, 2}, {quick(), stands("RY", 1, 1), 0, 1}, {quick(), first(quick()), 1, 2},
		{free(), stands("GGYG", 1, 9), 2, 3}, {free(), stands("RRRR", 1, 0), 2, 1}, {free(), stands("RYRR", 0, 0), 2, 6}, {free(), stands("RYRR", 0, 0), 0, 1}, {free(), first(free()), 3, 1}, {free(), flashed(stands("FFFF", 1, 1)), 2, 2},
		{together(), first(together()), 0, 1}, {together(), stands("GGGGGGGGGGGGGGGY", 0, 0), 0, 4},
		{crowded(), first(crowded()), 7, 6}, {long(), first(long()), 0, 1},
	})
}

// P15.3: just MaxScript ticks are told, one more is too many: by Start, by between, by Min, by Yellow, and behind flash.
func TestHowManyStepsThereMayBe(t *testing.T) {
	slowGreen := func(low int) api.Site {
		return siteOf([]api.Group{group(low, 1), group(1, 1)}, [][]int{{0, 1}, {1, 0}})
	}
	slowYellow := func(yellow int) api.Site { return siteOf(alike(1, 1, yellow), square(1, none)) }
	for i, c := range []struct {
		ticks int // that are needed
		s     api.Site
		now   api.Safe
		phase int
	}{
		{4096, alone(), starting(stands("R", 1, 1), 4095), 0},
		{4096, example(), starting(stands("RRR", 1, 1), 4095), 1},
		{4095, example(), starting(stands("RRR", 1, 1), 4094), 0},
		{4096, wide(4095), first(wide(4095)), 1},
		{4096, wide(4095), stands("RRR", 1, 0), 0},
		{4096, wide(4096), stands("RRR", 1, 1), 0},
		{4096, wide(5000), stands("RRR", 1, 905), 1},
		{4096, wide(4094), stands("GRR", 0, 0), 1},
		{4096, far(), stands("RRR", 1, top-4095), 2},
		{4096, far(), stands("RRR", 1, top-4096), 0},
		{4096, slowGreen(4094), stands("GR", 0, 0), 1},
		{4096, slowGreen(top / 2), stands("GR", top/2-4094, 0), 1},
		{4096, slowYellow(4094), stands("Y", 0, 0), 0},
		{4096, slowYellow(top), stands("Y", top-4094, 1), 0},
		{4096, wide(4095), flashed(stands("FFF", 1, 1)), 0},
	} {
		if got, e := Steps(c.s, c.now, c.phase); e != api.OK || got != c.ticks {
			t.Error(i, got, e)
		}
		holdSteps(t, c.s, c.now, c.phase)
	}
	for i, c := range []struct {
		s     api.Site
		now   api.Safe
		phase int
	}{
		{alone(), starting(stands("R", 1, 1), 4096), 0}, {alone(), starting(stands("R", 1, 1), top), 0}, {example(), starting(stands("RRR", 1, 1), 4096), 0}, {example(), starting(stands("RRR", 1, 1), 5000), 1},
		{wide(4096), first(wide(4096)), 0}, {wide(4096), stands("RRR", 1, 0), 1}, {wide(5000), stands("RRR", 1, 904), 1}, {wide(4095), stands("GRR", 0, 0), 1},
		{far(), first(far()), 1}, {far(), stands("RRR", 1, 0), 0}, {far(), stands("RRR", 1, top-4096), 2}, {far(), stands("RRR", 1, top-4097), 0},
		{slowGreen(4095), stands("GR", 0, 0), 1}, {slowGreen(top / 2), stands("GR", top/2-4095, 0), 1}, {slowYellow(4095), stands("Y", 0, 0), 0}, {slowYellow(top), stands("Y", top-4095, 1), 0}, {long(), stands("YY", 1, 1), 0},
		{wide(4096), flashed(stands("FFF", 1, 1)), 0}, {far(), flashed(stands("FFF", 1, top)), 2},
	} {
		if got, e := Steps(c.s, c.now, c.phase); e != api.ErrMany || got != 0 {
			t.Error(i, got, e)
		}
		holdSteps(t, c.s, c.now, c.phase)
	}
	// Full now: nothing is needed, though another phase would need too many.
	for _, s := range []api.Site{wide(4096), far()} {
		now := stands("GRR", 1, 0)
		now.Groups[2].Aspect = api.Green
		if got, e := Steps(s, now, 0); got != 0 || e != api.OK {
			t.Error(got, e)
		}
	}
}

// P15.3: which Starts may be, and what they cost: as many ticks more.
func TestStarts(t *testing.T) {
	for _, s := range []api.Site{example(), alone(), free(), quick(), crowded()} {
		for _, start := range []int{0, 1, 2, 3, 4, 5, 100, 4094, 4095, 4096, 4097, top - 1, top} {
			now := starting(first(s), start)
			got, e := Steps(s, now, 0)
			if start < 4096 && (got != start+1 || e != api.OK) || start >= 4096 && (got != 0 || e != api.ErrMany) {
				t.Error(start, got, e)
			}
		}
	}
}
