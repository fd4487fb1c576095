package seq

import (
	"math"
	"slices"
	"testing"

	"stopline/api"
	"stopline/site"
)

// The errors and limits by their numbers.
func TestGivenNumbers(t *testing.T) {
	if api.ErrArg != 2 || api.ErrBad != 8 || api.ErrSite != 50 || api.MaxPhases != 8 || top != 1048576 {
		t.Error("numbers of package api")
	}
	for i, s := range goodSites() {
		if e := site.Check(s); e != api.OK {
			t.Error("a site that should be", i, e)
		}
	}
	for i, s := range badSites() {
		if e := site.Check(s); e != api.ErrSite {
			t.Error("a site that should not be", i, e)
		}
	}
}

// Every row of the chapter's Examples.
func TestExamples(t *testing.T) {
	s := example()
	if got, e := Bound(s); got != 49 || e != api.OK {
		t.Error("Bound", got, e)
	}
	g, r := api.Green, api.Red
	for i, c := range []struct {
		since int
		gaps  uint32
		want  api.Seq
		asks  []uint8
	}{
		{1, 1, api.Seq{Phase: 1, Since: 0}, []uint8{r, g, g}},
		{1, 0, api.Seq{Phase: 0, Since: 2}, []uint8{g, r, r}},
		{8, 0, api.Seq{Phase: 1, Since: 0}, []uint8{r, g, g}},
	} {
		got, asks, e := Next(s, api.Seq{Phase: 0, Since: c.since}, stands("GRR"), 2, c.gaps)
		if got != c.want || !slices.Equal(asks, c.asks) || e != api.OK {
			t.Error(i, got, asks, e)
		}
	}
}

type nextCase struct {
	s           api.Site
	phase       int
	since       int
	text        string
	calls, gaps uint32
	want        api.Seq
}

func holdCases(t *testing.T, list []nextCase) {
	t.Helper()
	for i, c := range list {
		got, asks, e := Next(c.s, api.Seq{Phase: c.phase, Since: c.since}, stands(c.text), c.calls, c.gaps)
		if e != api.OK || got != c.want || !slices.Equal(asks, slowAsks(c.s, got.Phase)) {
			t.Errorf("%d: %+v, %v, %d; not %+v", i, got, asks, e, c.want)
		}
		holdNext(t, c.s, api.Seq{Phase: c.phase, Since: c.since}, stands(c.text), c.calls, c.gaps)
	}
}

// P16.1: by hand, around Min and Max.
func TestAroundMinAndMax(t *testing.T) {
	s := example()
	at := func(phase, since int) api.Seq { return api.Seq{Phase: phase, Since: since} }
	holdCases(t, []nextCase{
		// Below Min nothing ends it, at Min its gap does, at Max anything.
		{s, 0, 0, "GRR", 3, 3, at(0, 1)}, {s, 0, 1, "GRR", 3, 3, at(1, 0)}, {s, 0, 1, "GRR", 3, 2, at(0, 2)}, {s, 0, 7, "GRR", 3, 0, at(0, 8)}, {s, 0, 7, "GRR", 3, 1, at(1, 0)}, {s, 0, 8, "GRR", 3, 0, at(1, 0)}, {s, 0, 9, "GRR", 3, 0, at(1, 0)}, {s, 0, top, "GRR", 3, 0, at(1, 0)},
		{s, 1, 1, "RGG", 1, 2, at(1, 2)}, {s, 1, 2, "RGG", 1, 2, at(0, 0)}, {s, 1, 2, "RGG", 1, 1, at(1, 3)}, {s, 1, 8, "RGG", 1, 0, at(0, 0)},
		// No other one is called.
		{s, 0, 1, "GRR", 0, 1, at(0, 2)}, {s, 0, 1, "GRR", 1, 1, at(0, 2)}, {s, 0, 8, "GRR", 1, 3, at(0, 9)}, {s, 0, 8, "GRR", 5, 3, at(0, 9)}, {s, 0, 50, "GRR", 1 << 31, 3, at(0, 51)}, {s, 0, top - 1, "GRR", 1, 3, at(0, top)}, {s, 0, top, "GRR", 1, 3, at(0, top)},
		// Not full: by one group, whatever the others show.
		{s, 0, 8, "RRR", 3, 3, at(0, 0)}, {s, 0, 8, "YRR", 3, 3, at(0, 0)}, {s, 0, 8, "RGG", 3, 3, at(0, 0)}, {s, 0, top, "DGG", 3, 3, at(0, 0)}, {s, 1, 8, "RGY", 3, 3, at(1, 0)}, {s, 1, 8, "RRG", 3, 3, at(1, 0)}, {s, 1, 8, "FFF", 3, 3, at(1, 0)},
		// Standings that do not go on: a phase is full there likewise.
		{s, 0, 8, "GGG", 3, 0, at(1, 0)}, {s, 1, 8, "GGG", 3, 0, at(0, 0)}, {s, 1, 8, "FGG", 3, 0, at(0, 0)}, {s, 1, 8, "DGG", 0, 0, at(1, 9)},
		// Min and Max are the same.
		{quick(), 0, 0, "GR", 2, 0, at(1, 0)}, {quick(), 1, 0, "RG", 1, 0, at(0, 0)}, {quick(), 0, 0, "GR", 1, 1, at(0, 1)}, {quick(), 0, 0, "RR", 2, 1, at(0, 0)},
		// The greatest ones.
		{patient(), 0, top - 3, "GR", 2, 1, at(0, top-2)}, {patient(), 0, top - 2, "GR", 2, 1, at(1, 0)}, {patient(), 0, top - 2, "GR", 2, 0, at(0, top-1)}, {patient(), 0, top - 1, "GR", 2, 0, at(1, 0)}, {patient(), 0, top, "GR", 2, 0, at(1, 0)}, {patient(), 1, top - 2, "RG", 1, 0, at(1, top-1)}, {patient(), 1, top - 1, "RG", 1, 0, at(0, 0)},
		{still(), 0, top - 1, "G", 1, 1, at(0, top)}, {still(), 0, top, "G", math.MaxUint32, math.MaxUint32, at(0, top)}, {still(), 0, top, "Y", math.MaxUint32, math.MaxUint32, at(0, 0)},
		{alone(), 0, 0, "G", math.MaxUint32, math.MaxUint32, at(0, 1)}, {alone(), 0, 100, "G", math.MaxUint32, math.MaxUint32, at(0, 101)},
		// Always calls, and its own does not.
		{always(s, 2), 0, 8, "GRR", 0, 0, at(1, 0)}, {always(s, 2), 0, 1, "GRR", 0, 1, at(1, 0)}, {always(s, 2), 1, 8, "RGG", 0, 3, at(1, 9)}, {always(s, 1), 0, 8, "GRR", 0, 3, at(0, 9)}, {always(s, 1), 1, 8, "RGG", 0, 0, at(0, 0)}, {always(s, 3), 0, 1, "GRR", 0, 0, at(0, 2)}, {always(s, 3), 0, 1, "GRR", 0, 1, at(1, 0)},
	})
}

// P16.1: every place, standing, calls and gaps of small sites, with one bit beyond their phases.
func TestEverythingOfSmallSites(t *testing.T) {
	aspects := []uint8{api.Red, api.Green, api.Yellow}
	for _, s := range []api.Site{three(), always(three(), 2), lasting(example(), 2, 3, 3, 3)} {
		kinds := map[string]int{}
		sets := uint32(2) << uint(len(s.Phases))
		for place := range 27 {
			now := api.Safe{Groups: []api.Seen{{Aspect: aspects[place%3]}, {Aspect: aspects[place/3%3]}, {Aspect: aspects[place/9]}}}
			for phase, p := range s.Phases {
				for since := range p.Max + 2 {
					for calls := range sets {
						for gaps := range sets {
							q := api.Seq{Phase: phase, Since: since}
							next, _ := holdNext(t, s, q, now, calls, gaps)
							kinds[kindOf(q, next)]++
						}
					}
				}
			}
		}
		for _, kind := range []string{"left", "begun", "counted"} {
			if kinds[kind] < 1000 {
				t.Error("seldom", kind, kinds)
			}
		}
	}
}

func kindOf(q, next api.Seq) string {
	switch {
	case next.Phase != q.Phase:
		return "left"
	case next.Since == 0:
		return "begun"
	}
	return "counted"
}

// P16.1: every aspect of each group of a site, Start and Flashed whatever they are: what is full hangs on aspects alone.
func TestEveryAspect(t *testing.T) {
	aspects := []uint8{api.Dark, api.Red, api.Green, api.Yellow, api.Flash, 5, 255}
	for _, s := range []api.Site{example(), shared()} {
		for _, a := range aspects {
			for _, b := range aspects {
				for _, c := range aspects {
					for _, n := range []int{math.MinInt, -1, 0, 1, top, top + 1, math.MaxInt} {
						now := api.Safe{Groups: []api.Seen{{Aspect: a, Since: n}, {Aspect: b, Ended: n}, {Aspect: c}}, Start: n, Flashed: n == 1}
						for phase, p := range s.Phases {
							holdNext(t, s, api.Seq{Phase: phase, Since: p.Max - 1}, now, 3, 0)
							holdNext(t, s, api.Seq{Phase: phase, Since: p.Min - 1}, now, 3, 3)
							holdNext(t, s, api.Seq{Phase: phase, Since: p.Max}, now, 0, 3)
						}
					}
				}
			}
		}
	}
}

// P16.1: the edges of place, calls and gaps of each site, full and not.
func TestEdges(t *testing.T) {
	for _, s := range goodSites() {
		for _, phase := range phasesAround(len(s.Phases)) {
			p, now := s.Phases[0], first(s)
			if thereIs(s, phase) {
				p, now = s.Phases[phase], filled(s, phase)
			}
			for _, since := range sincesAround(p) {
				q := api.Seq{Phase: phase, Since: since}
				if slowError(s, q, now) != api.OK {
					holdError(t, s, q, now, api.ErrArg)
					continue
				}
				for i, calls := range setsAround(len(s.Phases)) {
					gaps := setsAround(len(s.Phases))
					holdNext(t, s, q, now, calls, 0)
					holdNext(t, s, q, now, calls, gaps[(i+since+phase)%len(gaps)])
					holdNext(t, s, q, first(s), calls, math.MaxUint32)
				}
			}
		}
	}
}

// P16.1: places that may not be, and places that just may.
func TestPlaces(t *testing.T) {
	for _, s := range goodSites() {
		last := len(s.Phases) - 1
		for _, phase := range []int{math.MinInt, -1, last + 1, api.MaxPhases, 31, 32, 64, 1 << 32, math.MaxInt} {
			for _, since := range []int{0, 1, top} {
				holdError(t, s, api.Seq{Phase: phase, Since: since}, first(s), api.ErrArg)
			}
		}
		for _, since := range []int{math.MinInt, -1, top + 1, 1 << 32, math.MaxInt} {
			for phase := range s.Phases {
				holdError(t, s, api.Seq{Phase: phase, Since: since}, filled(s, phase), api.ErrArg)
				holdError(t, s, api.Seq{Phase: phase, Since: since}, first(s), api.ErrArg)
			}
		}
		for _, since := range []int{0, top} {
			for _, phase := range []int{0, last} {
				if _, _, e := Next(s, api.Seq{Phase: phase, Since: since}, first(s), 0, 0); e != api.OK {
					t.Error(phase, since, e)
				}
			}
		}
	}
}

// few are standings without as many groups as a site has.
func few(s api.Site) []api.Safe {
	list := []api.Safe{{}, {Groups: []api.Seen{}}}
	for _, n := range []int{len(s.Groups) - 1, len(s.Groups) + 1, 2*len(s.Groups) + 1, 32, 64} {
		for _, aspect := range []uint8{api.Red, api.Green, api.Flash} {
			list = append(list, api.Safe{Groups: slices.Repeat([]api.Seen{{Aspect: aspect, Since: 1}}, n), Flashed: aspect == api.Flash})
		}
	}
	return list
}

// P16.1: standings without as many groups, of each phase; behind a bad place that is told.
func TestStandingsThatAreNotAsMany(t *testing.T) {
	for _, s := range goodSites() {
		for _, now := range few(s) {
			for phase, p := range s.Phases {
				for _, since := range []int{0, p.Max, top} {
					holdError(t, s, api.Seq{Phase: phase, Since: since}, now, api.ErrBad)
				}
			}
			for _, q := range []api.Seq{{Phase: -1}, {Phase: len(s.Phases)}, {Phase: math.MaxInt}, {Phase: math.MinInt, Since: -1}, {Since: -1}, {Since: top + 1}, {Since: math.MinInt}, {Since: math.MaxInt}} {
				holdError(t, s, q, now, api.ErrArg)
			}
		}
	}
}

// P16.1, P16.2: a site that may not be is told ahead of all else, and nothing beside it.
func TestSitesThatMayNotBe(t *testing.T) {
	for i, s := range badSites() {
		if got, e := Bound(s); got != 0 || e != api.ErrSite {
			t.Error(i, got, e)
		}
		for _, now := range append(few(example()), stands("GRR"), stands("RGG"), stands("GGG"), api.Safe{Groups: make([]api.Seen, len(s.Groups))}) {
			for _, q := range []api.Seq{{}, {Since: 5}, {Phase: 1, Since: 8}, {Phase: -1}, {Phase: 8}, {Since: -1}, {Since: top + 1}, {Phase: math.MaxInt, Since: math.MinInt}} {
				holdError(t, s, q, now, api.ErrSite)
			}
		}
	}
}

// P16.1: a phase that is not full stays, and its Since is 0, whatever is called and whatever the gaps are.
func TestNotFullStays(t *testing.T) {
	for _, s := range goodSites() {
		for phase, p := range s.Phases {
			for _, lost := range membersOf(p.Groups) {
				now := filled(s, phase)
				now.Groups[lost].Aspect = []uint8{api.Red, api.Yellow, api.Dark, api.Flash}[lost%4]
				for _, since := range []int{0, 1, p.Min, p.Max, top} {
					for _, set := range setsAround(len(s.Phases)) {
						holdStays(t, s, api.Seq{Phase: phase, Since: since}, now, set, math.MaxUint32)
						holdStays(t, s, api.Seq{Phase: phase, Since: since}, now, math.MaxUint32, set)
					}
				}
			}
		}
	}
}

// holdStays holds that a phase stays, and that its Since is 0.
func holdStays(t *testing.T, s api.Site, q api.Seq, now api.Safe, calls, gaps uint32) {
	t.Helper()
	got, asks, e := Next(s, q, now, calls, gaps)
	if got != (api.Seq{Phase: q.Phase}) || e != api.OK || !slices.Equal(asks, slowAsks(s, q.Phase)) {
		t.Fatal(q, now, calls, gaps, got, asks, e)
	}
}

// P16.1: a phase that is full stays where no other one is called, also behind Max.
func TestFullStaysWhereNoneIsCalled(t *testing.T) {
	for _, given := range goodSites() {
		for phase, p := range given.Phases {
			for _, s := range []api.Site{always(given, 0), always(given, 1<<uint(phase))} {
				beyond := ^(uint32(1)<<uint(len(s.Phases)) - 1)
				own := uint32(1) << uint(phase)
				for _, since := range []int{0, p.Min - 1, p.Min, p.Max - 1, p.Max, top - 1, top} {
					for _, calls := range []uint32{0, own, beyond, own | beyond} {
						got, _, e := Next(s, api.Seq{Phase: phase, Since: since}, filled(s, phase), calls, math.MaxUint32)
						if want := min(since+1, top); got != (api.Seq{Phase: phase, Since: want}) || e != api.OK {
							t.Fatal(phase, since, calls, got, e)
						}
					}
				}
			}
		}
	}
}

// P16.1: the one that is told is the first one that is called behind it, going round, from every phase and of all calls, by bits or by Always; what is asked is what that one asks.
func TestFirstBehind(t *testing.T) {
	for _, given := range []api.Site{crowded(), many(), free(), three()} {
		for set := range uint32(1) << uint(len(given.Phases)) {
			for phase, p := range given.Phases {
				want := api.Seq{Phase: phase, Since: p.Max}
				for further := 1; further < len(given.Phases); further++ {
					it := (phase + further) % len(given.Phases)
					if set/(1<<uint(it))%2 == 1 {
						want = api.Seq{Phase: it}
						break
					}
				}
				now, q := filled(given, phase), api.Seq{Phase: phase, Since: p.Max - 1}
				half := set & 0x55
				for _, c := range []struct {
					s     api.Site
					calls uint32
				}{{given, set}, {always(given, set), 0}, {always(given, half), set &^ half}, {always(given, half), set}} {
					got, asks, e := Next(c.s, q, now, c.calls, 0)
					if got != want || e != api.OK || !slices.Equal(asks, slowAsks(given, want.Phase)) {
						t.Fatal(set, phase, got, asks, e)
					}
				}
			}
		}
	}
}

// P16.1: the gaps of other phases, and bits of calls and gaps that no phase has, change nothing.
func TestBitsThatCountForNothing(t *testing.T) {
	for _, s := range goodSites() {
		there := uint32(1)<<uint(len(s.Phases)) - 1
		for phase, p := range s.Phases {
			own := uint32(1) << uint(phase)
			for _, since := range []int{0, p.Min - 1, p.Min, p.Max - 1, p.Max, top} {
				q, now := api.Seq{Phase: phase, Since: since}, filled(s, phase)
				for _, calls := range []uint32{0, own, there, there - own} {
					for _, gap := range []uint32{0, own} {
						plain, plainAsks, _ := Next(s, q, now, calls, gap)
						got, asks, e := Next(s, q, now, calls|^there, gap|^own)
						if got != plain || !slices.Equal(asks, plainAsks) || e != api.OK {
							t.Fatal(q, calls, gap, got, plain, e)
						}
					}
				}
			}
		}
	}
}

// P16.1: Since stops at MaxTicks, and goes up by one till there.
func TestSinceStops(t *testing.T) {
	for _, s := range []api.Site{always(example(), 0), alone(), still(), patient()} {
		q := api.Seq{Since: top - 5}
		for tick := range 20 {
			got, _, e := Next(s, q, filled(s, 0), 1, 1)
			if got != (api.Seq{Since: min(top-4+tick, top)}) || e != api.OK {
				t.Fatal(tick, got, e)
			}
			q = got
		}
	}
}

// P16.2: by hand, and by the slow reading.
func TestBound(t *testing.T) {
	for i, c := range []struct {
		s    api.Site
		want int
	}{
		{example(), 49}, {always(example(), 3), 49}, {lasting(example(), 2, 3, 3, 100), 3 + 100 + 2*11 + 9},
		{alone(), 5 + 5 + 2 + 5}, {quick(), 2*(1+4+2) + 4}, {three(), 3 + 2 + 1 + 3*(5+2) + 5},
		{still(), top + 2*(2*top+2) + 2}, {patient(), 2*top + 2*6 + 4}, {far(), 4*top + 4*(top+5) + top + 3},
		{many(), 8*(4+4+2) + 4}, {crowded(), 8*(5+9+2) + 9}, {together(), 6 + 7 + 2 + 7},
	} {
		if got, e := Bound(c.s); got != c.want || e != api.OK {
			t.Error(i, got, c.want, e)
		}
	}
	for _, s := range append(goodSites(), badSites()...) {
		holdBound(t, s)
	}
}
