package call

import (
	"math"
	"math/rand/v2"
	"slices"
	"testing"

	"stopline/api"
	"stopline/eye"
	"stopline/site"
)

// The numbers that the document gives; and that the sites and detectors that the tests lean on may be, or may not.
func TestGivenNumbers(t *testing.T) {
	if api.OK != 0 || api.ErrArg != 2 || api.ErrMany != 4 || api.ErrBad != 8 || api.ErrSite != 50 || api.MaxPhases != 8 || api.MaxEyes != 24 {
		t.Error(int(api.OK), int(api.ErrArg), int(api.ErrMany), int(api.ErrBad), int(api.ErrSite), api.MaxPhases, api.MaxEyes)
	}
	for i, s := range []api.Site{example(), wide(1, 0), wide(1, 1, 0), wide(8, 255, slices.Repeat([]int{0, 7, 3}, 8)...)} {
		if site.Check(s) != api.OK {
			t.Error(i)
		}
	}
	for i, s := range badSites() {
		if site.Check(s) != api.ErrSite {
			t.Error(i)
		}
	}
	for _, x := range wrongLooks() {
		if _, e := eye.Well(example(), []api.Looked{x}); e != api.ErrBad {
			t.Error(x, e)
		}
	}
	if setOf(0, 2, 2, 31) != 1<<31+5 || !slices.Equal(numbersOf(1<<31+5), []int{0, 2, 31}) {
		t.Error("the tests' own sets")
	}
}

func wantReal(t *testing.T, s api.Site, l []api.Looked, want uint32, f api.Errno) {
	t.Helper()
	if c, e := Real(s, l); c != want || e != f {
		t.Error("Real", len(s.Phases), s.Eyes, l, "told", c, e, "not", want, f)
	}
}

func wantNext(t *testing.T, s api.Site, c uint32, l []api.Looked, green int, want uint32, f api.Errno) {
	t.Helper()
	if next, e := Next(s, c, l, green); next != want || e != f {
		t.Error("Next", len(s.Phases), s.Eyes, c, l, green, "told", next, e, "not", want, f)
	}
}

func wantFirst(t *testing.T, s api.Site, c uint32, phase, want int, f api.Errno) {
	t.Helper()
	if first, e := First(s, c, phase); first != want || e != f {
		t.Error("First", len(s.Phases), c, phase, "told", first, e, "not", want, f)
	}
}

// Every row of the chapter's examples.
func TestExamples(t *testing.T) {
	s, zero, up := example(), looks("0"), looks("u")
	wantReal(t, s, zero, 2, api.OK)
	wantReal(t, s, up, 3, api.OK)
	wantNext(t, s, 0, up, 0, 2, api.OK)
	wantNext(t, s, 1, zero, -1, 3, api.OK)
	wantNext(t, s, 1, zero, 1, 1, api.OK)
	wantFirst(t, s, 3, 0, 1, api.OK)
	wantFirst(t, s, 1, 0, 0, api.OK)
	wantFirst(t, s, 0, 1, -1, api.OK)
	wantFirst(t, s, 3, -1, 0, api.OK)
	for _, l := range [][]api.Looked{zero, up} {
		for _, green := range []int{-2, -1, 0, 1, 2} {
			wantNext(t, s, 4, l, green, 0, api.ErrBad)
		}
	}
	wantFirst(t, s, 0, 2, 0, api.ErrArg)
}

// P14.1: a phase is wanted where it is Always, where one of its eyes wants, and where an eye is not believed; else not.
func TestRealByHand(t *testing.T) {
	for _, c := range []struct {
		phases int
		always uint32
		eyes   []int
		looks  string
		want   uint32
	}{
		{1, 0, nil, "", 0}, {1, 1, nil, "", 1}, {1, 0, []int{0}, "0", 0}, {1, 0, []int{0}, "u", 1}, {1, 0, []int{0}, "b", 1}, {1, 0, []int{0}, "w", 1}, {1, 1, []int{0}, "0", 1}, {1, 1, []int{0}, "u", 1},
		{3, 0, nil, "", 0}, {3, 5, nil, "", 5}, {3, 7, nil, "", 7},
		// One eye of several.
		{3, 0, []int{1, 1, 1}, "000", 0}, {3, 0, []int{1, 1, 1}, "u00", 2}, {3, 0, []int{1, 1, 1}, "0u0", 2}, {3, 0, []int{1, 1, 1}, "00u", 2}, {3, 0, []int{1, 1, 1}, "b00", 2}, {3, 0, []int{1, 1, 1}, "00b", 2}, {3, 0, []int{1, 1, 1}, "ubw", 2},
		// An eye is of its phase alone, whatever the order of eyes; phases without eyes are not wanted.
		{3, 0, []int{0, 2}, "u0", 1}, {3, 0, []int{0, 2}, "0u", 4}, {3, 0, []int{0, 2}, "uu", 5}, {3, 0, []int{2, 0}, "u0", 4}, {3, 0, []int{2, 0}, "0b", 1}, {3, 0, []int{2, 0, 2}, "00b", 4},
		// Always beside eyes.
		{3, 2, []int{0, 2}, "00", 2}, {3, 2, []int{0, 2}, "0u", 6}, {3, 2, []int{1, 2}, "00", 2}, {3, 2, []int{1, 2}, "b0", 2}, {3, 3, []int{1, 2}, "0b", 7},
		{8, 0, []int{7, 0}, "u0", 128}, {8, 128, []int{7, 0}, "0u", 129}, {8, 255, nil, "", 255}, {8, 0, []int{0, 1, 2, 3, 4, 5, 6, 7}, "ubwubwub", 255}, {8, 0, []int{0, 1, 2, 3, 4, 5, 6, 7}, "u000000b", 129},
	} {
		wantReal(t, wide(c.phases, c.always, c.eyes...), looks(c.looks), c.want, api.OK)
	}
}

// P14.2: c and all that are wanted, without the phase that is green.
func TestNextByHand(t *testing.T) {
	s := wide(4, 2, 0, 2, 2) // phase 1 is Always, phase 3 has no eye
	for _, c := range []struct {
		calls uint32
		looks string
		green int
		want  uint32
	}{
		{0, "000", -1, 2}, {0, "000", 0, 2}, {0, "000", 1, 0}, {0, "000", 2, 2}, {0, "000", 3, 2},
		{8, "000", -1, 10}, {8, "000", 1, 8}, {8, "000", 3, 2}, {15, "000", 3, 7}, {15, "000", -1, 15}, {15, "000", 0, 14},
		{0, "u00", -1, 3}, {0, "u00", 0, 2}, {0, "b00", 0, 2}, {1, "u00", 0, 2}, {1, "000", 0, 2}, {1, "000", 1, 1}, {1, "000", 2, 3},
		{0, "0u0", -1, 6}, {0, "00u", -1, 6}, {0, "00b", 1, 4}, {0, "0uu", 2, 2}, {4, "0bw", 2, 2}, {5, "0bw", 2, 3}, {13, "uuu", 1, 13}, {13, "000", 1, 13},
	} {
		wantNext(t, s, c.calls, looks(c.looks), c.green, c.want, api.OK)
	}
	one, always := wide(1, 0, 0), wide(1, 1)
	for _, calls := range []uint32{0, 1} {
		wantNext(t, one, calls, looks("0"), 0, 0, api.OK)
		wantNext(t, one, calls, looks("u"), 0, 0, api.OK)
		wantNext(t, one, calls, looks("0"), -1, calls, api.OK)
		wantNext(t, one, calls, looks("b"), -1, 1, api.OK)
		wantNext(t, always, calls, nil, 0, 0, api.OK)
		wantNext(t, always, calls, nil, -1, 1, api.OK)
	}
}

// P14.3: the nearest one behind, itself last, none.
func TestFirstByHand(t *testing.T) {
	for _, c := range []struct {
		phases int
		calls  uint32
		phase  int
		want   int
	}{
		{1, 0, -1, -1}, {1, 0, 0, -1}, {1, 1, -1, 0}, {1, 1, 0, 0},
		{4, 15, -1, 0}, {4, 15, 0, 1}, {4, 15, 1, 2}, {4, 15, 2, 3}, {4, 15, 3, 0},
		{4, 8, -1, 3}, {4, 8, 0, 3}, {4, 8, 2, 3}, {4, 8, 3, 3}, {4, 1, -1, 0}, {4, 1, 0, 0}, {4, 1, 1, 0}, {4, 1, 3, 0},
		{4, 9, 0, 3}, {4, 9, 3, 0}, {4, 9, 1, 3}, {4, 6, 2, 1}, {4, 6, 1, 2}, {4, 6, 3, 1}, {4, 6, -1, 1},
		{8, 128, -1, 7}, {8, 128, 7, 7}, {8, 129, 7, 0}, {8, 129, 0, 7}, {8, 64, 7, 6}, {8, 255, 7, 0}, {8, 255, 6, 7}, {8, 0, 7, -1}, {8, 0, -1, -1},
	} {
		wantFirst(t, wide(c.phases, 0), c.calls, c.phase, c.want, api.OK)
	}
	// Neither Always nor eyes count here: the calls alone.
	wantFirst(t, example(), 0, 0, -1, api.OK)
	wantFirst(t, wide(3, 7, 0, 1, 2), 4, 0, 2, api.OK)
}

// P14.3: every set of calls of small sites and of the greatest one, behind every phase and behind none.
func TestFirstOfEverySet(t *testing.T) {
	for phases := 1; phases <= api.MaxPhases; phases++ {
		s := wide(phases, 0)
		for c := range uint32(1) << phases {
			for phase := -1; phase < phases; phase++ {
				want, f := slowFirst(s, c, phase)
				if f != api.OK {
					t.Fatal(phases, c, phase, f)
				}
				wantFirst(t, s, c, phase, want, api.OK)
			}
		}
	}
}

// P14.2, P14.3, R1: numbers and calls at their edges, beside each other, against the slow reading.
func TestAtTheEdges(t *testing.T) {
	for phases := 1; phases <= api.MaxPhases; phases++ {
		for _, s := range []api.Site{wide(phases, 0), wide(phases, math.MaxUint32), wide(phases, 1, 0, phases-1, 0)} {
			l := looks("00u")[:len(s.Eyes)]
			for _, c := range callsAround(phases) {
				for _, n := range numbersAround(phases) {
					want, f := slowNext(s, c, l, n)
					wantNext(t, s, c, l, n, want, f)
					first, f := slowFirst(s, c, n)
					wantFirst(t, s, c, n, first, f)
				}
			}
		}
	}
}

// P14.1, P14.2: any sites, detectors, calls and greens that may be, against the slow reading; and Real is what Next makes of no calls with no green.
func TestAnyAgainstTheSlowReading(t *testing.T) {
	source := rand.New(rand.NewPCG(14, 1))
	for range 5000 {
		s := anySite(source)
		l := anyLooks(source, len(s.Eyes))
		real, f := slowReal(s, l)
		if f != api.OK {
			t.Fatal(s.Eyes, l, f)
		}
		wantReal(t, s, l, real, api.OK)
		wantNext(t, s, 0, l, -1, real, api.OK)
		for phase := range s.Phases {
			c := source.Uint32N(1 << len(s.Phases))
			want, f := slowNext(s, c, l, phase)
			if f != api.OK || slices.Contains(numbersOf(want), phase) {
				t.Fatal(s.Eyes, c, l, phase, f)
			}
			wantNext(t, s, c, l, phase, want, api.OK)
		}
	}
}

// P14.2: what a call is told of hangs on Up and Bad of detectors alone, at every edge of their other numbers.
func TestOtherNumbersOfDetectors(t *testing.T) {
	s := wide(2, 0, 1)
	for _, x := range []api.Looked{{}, {Up: true}, {Bad: true}, {Up: true, Bad: true}} {
		for _, same := range []int{0, 1, 4, 5, 6, 39, 40, top - 1, top} {
			for _, turns := range []uint64{0, 1, 1 << 63, math.MaxUint64} {
				for _, well := range []int{0, 1, 2, top} {
					y := api.Looked{Up: x.Up, Same: same, Turns: turns, Bad: x.Bad, Well: well}
					if !x.Bad {
						y.Well = 0
					}
					want := uint32(0)
					if x.Up || x.Bad {
						want = 2
					}
					wantReal(t, s, []api.Looked{y}, want, api.OK)
					wantNext(t, s, 1, []api.Looked{y}, -1, 1+want, api.OK)
				}
			}
		}
	}
}

// holdEyes holds Real and Next against an error of eye.Well, whatever the calls and the green are.
func holdEyes(t *testing.T, s api.Site, l []api.Looked, want api.Errno) {
	t.Helper()
	wantReal(t, s, l, 0, want)
	for _, c := range []uint32{0, 1, 8, 256, 1 << 31, math.MaxUint32} {
		for _, green := range []int{math.MinInt, -2, -1, 0, 1, 8, 32, math.MaxInt} {
			wantNext(t, s, c, l, green, 0, want)
		}
	}
}

// P14.1, P14.2, P14.3: a site that may not be is told first, beside a wrong count, a bad detector, bad calls and a bad number.
func TestASiteThatMayNotBe(t *testing.T) {
	bad := wrongLooks()
	for _, s := range badSites() {
		for _, many := range []int{0, 1, len(s.Eyes), len(s.Eyes) + 1} {
			holdEyes(t, s, make([]api.Looked, many), api.ErrSite)
			holdEyes(t, s, slices.Repeat(bad[:1], many), api.ErrSite)
		}
		holdEyes(t, s, nil, api.ErrSite)
		for _, c := range callsAround(len(s.Phases)) {
			for _, phase := range numbersAround(len(s.Phases)) {
				wantFirst(t, s, c, phase, 0, api.ErrSite)
			}
		}
	}
}

// P14.1, P14.2: a wrong count is told next, beside bad detectors, bad calls and a bad number; then a bad detector, wherever it stands.
func TestDetectorsThatMayNotBe(t *testing.T) {
	bad := wrongLooks()
	for _, many := range []int{0, 1, 2, 5, api.MaxEyes} {
		s := wide(3, 2, make([]int, many)...)
		for _, wrong := range []int{0, 1, many - 1, many + 1, api.MaxEyes + 1, 1000} {
			if wrong < 0 || wrong == many {
				continue
			}
			holdEyes(t, s, make([]api.Looked, wrong), api.ErrMany)
			for at := range min(wrong, 4) {
				l := make([]api.Looked, wrong)
				l[at] = bad[at]
				holdEyes(t, s, l, api.ErrMany)
			}
		}
		if many > 0 {
			holdEyes(t, s, nil, api.ErrMany)
			holdEyes(t, s, []api.Looked{}, api.ErrMany)
			holdEyes(t, s, make([]api.Looked, many-1, many), api.ErrMany)
		}
		for at := range many {
			for _, x := range bad {
				l := looks("u0bwu0bwu0bwu0bwu0bwu0bw")[:many]
				l[at] = x
				holdEyes(t, s, l, api.ErrBad)
			}
		}
	}
}

// P14.1, P14.2: of a site without eyes the list may be nil or empty.
func TestNoEyes(t *testing.T) {
	for _, l := range [][]api.Looked{nil, {}, make([]api.Looked, 0, 5)} {
		for phases := 1; phases <= api.MaxPhases; phases++ {
			all := uint32(1)<<phases - 1
			wantReal(t, wide(phases, 0), l, 0, api.OK)
			wantReal(t, wide(phases, all), l, all, api.OK)
			wantReal(t, wide(phases, 1), l, 1, api.OK)
			wantNext(t, wide(phases, 0), all, l, phases-1, all/2, api.OK)
			wantNext(t, wide(phases, all), 0, l, phases-1, all/2, api.OK)
			wantNext(t, wide(phases, all), 0, l, -1, all, api.OK)
		}
	}
}

// P14.2, P14.3: bad calls are told ahead of a bad number; a bad number beside calls that may be, whatever they are.
func TestCallsAheadOfNumbers(t *testing.T) {
	for phases := 1; phases <= api.MaxPhases; phases++ {
		s := wide(phases, 1, 0)
		for _, l := range [][]api.Looked{looks("0"), looks("u"), looks("b")} {
			for _, n := range numbersAround(phases) {
				for i := phases; i < 32; i++ {
					for _, c := range []uint32{1 << i, 1<<i | 1, 1<<i | (1<<phases - 1), math.MaxUint32} {
						wantNext(t, s, c, l, n, 0, api.ErrBad)
						wantFirst(t, s, c, n, 0, api.ErrBad)
					}
				}
				if n >= -1 && n < phases {
					continue
				}
				for _, c := range []uint32{0, 1, 1<<phases - 1} {
					wantNext(t, s, c, l, n, 0, api.ErrArg)
					wantFirst(t, s, c, n, 0, api.ErrArg)
				}
			}
		}
	}
}
