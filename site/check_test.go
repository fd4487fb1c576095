package site

import (
	"math"
	"math/rand/v2"
	"slices"
	"testing"

	"stopline/api"
)

const top = api.MaxTicks

// hold holds Check against the chapter's words.
func hold(t *testing.T, s api.Site) {
	t.Helper()
	want := api.ErrSite
	if slowMay(s) {
		want = api.OK
	}
	if e := Check(s); e != want {
		t.Fatal(int(e), "not", int(want), s)
	}
}

// P5.1
func TestSitesThatMayBe(t *testing.T) {
	for i, s := range sites() {
		if !slowMay(s) {
			t.Fatal("the test's own site", i, "may not be", s)
		}
		if e := Check(s); e != api.OK {
			t.Error(i, int(e), s)
		}
	}
}

// edge is a number of a site: how it is set, and the lowest and the highest it may be then.
type edge struct {
	name      string
	set       func(s *api.Site, n int)
	low, high int
}

func holdEdges(t *testing.T, base api.Site, list []edge) {
	t.Helper()
	for _, c := range list {
		for n, want := range map[int]api.Errno{
			c.low: api.OK, c.high: api.OK, c.low - 1: api.ErrSite, c.high + 1: api.ErrSite,
			-1 << 20: api.ErrSite, 1 << 21: api.ErrSite, 1 << 32: api.ErrSite, math.MinInt: api.ErrSite, math.MaxInt: api.ErrSite,
		} {
			s := clone(base)
			c.set(&s, n)
			if e := Check(s); e != want {
				t.Error(c.name, n, int(e), "not", int(want))
			}
			hold(t, s)
		}
	}
}

// P5.1: each number at its lowest, at its highest, and one beyond either, in a site whose Low is just a round (8 and 13, 12 and 11, 17 and nothing) and just a plan's Cycle.
func TestEachNumberAtItsEdges(t *testing.T) {
	holdEdges(t, three(), []edge{
		{"Id", func(s *api.Site, n int) { s.Id = n }, 0, 65535},
		{"a group's Min", func(s *api.Site, n int) { s.Groups[0].Min = n }, 1, 8},
		{"a group's Min, in two phases", func(s *api.Site, n int) { s.Groups[2].Min = n }, 1, 8},
		{"a group's Yellow", func(s *api.Site, n int) { s.Groups[0].Yellow = n }, 1, 9},
		{"a group's Yellow, apart from two", func(s *api.Site, n int) { s.Groups[1].Yellow = n }, 1, 10},
		{"Between of two apart", func(s *api.Site, n int) { s.Between[2][1] = n }, 2, 13},
		{"Between of two apart, the lesser one", func(s *api.Site, n int) { s.Between[0][1] = n }, 3, 13},
		{"Between of two apart that no round has", func(s *api.Site, n int) { s.Between[1][0] = n }, 4, top},
		{"Between of a group and itself", func(s *api.Site, n int) { s.Between[1][1] = n }, 0, 0},
		{"Between of two that are not apart", func(s *api.Site, n int) { s.Between[0][2] = n }, 0, 0},
		{"a phase's Min", func(s *api.Site, n int) { s.Phases[0].Min = n }, 6, 8},
		{"a phase's Max", func(s *api.Site, n int) { s.Phases[0].Max = n }, 8, top},
		{"the last phase's Max", func(s *api.Site, n int) { s.Phases[2].Max = n }, 17, top},
		{"a phase's Gap", func(s *api.Site, n int) { s.Phases[2].Gap = n }, 1, top},
		{"an eye's Phase", func(s *api.Site, n int) { s.Eyes[1].Phase = n }, 0, 2},
		{"an eye's On", func(s *api.Site, n int) { s.Eyes[1].On = n }, 1, top},
		{"an eye's Off", func(s *api.Site, n int) { s.Eyes[0].Off = n }, 1, top},
		{"an eye's Turns", func(s *api.Site, n int) { s.Eyes[1].Turns = n }, 1, 64},
		{"Watch", func(s *api.Site, n int) { s.Watch = n }, 1, top},
		{"Feed", func(s *api.Site, n int) { s.Feed = n }, 1, top},
		{"Heal", func(s *api.Site, n int) { s.Heal = n }, 1, top},
		{"Low, from a round to a plan's Cycle", func(s *api.Site, n int) { s.Low = n }, 61, 61},
		{"Low without plans", func(s *api.Site, n int) { s.Low, s.Plans = n, nil }, 61, 1000},
		{"High, from a plan's Cycle on", func(s *api.Site, n int) { s.High = n }, 1000, top},
		{"High without plans", func(s *api.Site, n int) { s.High, s.Plans = n, nil }, 61, top},
		{"a plan's Cycle", func(s *api.Site, n int) { s.Plans[0].Cycle = n }, 61, 61},
		{"a plan's Cycle, with a split to match", func(s *api.Site, n int) {
			s.Plans[0].Cycle, s.Plans[0].Splits = n, []int{n - 40, 23, 17}
		}, 61, 1000},
		{"a plan's Offset", func(s *api.Site, n int) { s.Plans[0].Offset = n }, 0, 60},
		{"the last plan's Offset", func(s *api.Site, n int) { s.Plans[1].Offset = n }, 0, 999},
		{"a split, with another one to match", func(s *api.Site, n int) { s.Plans[1].Splits = []int{n, 983 - n, 17} }, 21, 960},
		{"the last split, with another one to match", func(s *api.Site, n int) { s.Plans[1].Splits = []int{977 - n, 23, n} }, 17, 956},
		{"a split alone", func(s *api.Site, n int) { s.Plans[1].Splits[1] = n }, 350, 350},
	})
}

// P5.1: numbers that nothing below MaxTicks bounds.
func TestNumbersAtMaxTicks(t *testing.T) {
	wide := three()
	wide.Low, wide.High, wide.Plans = top, top, nil
	holdEdges(t, wide, []edge{
		{"a phase's Min, up to a round that is just Low", func(s *api.Site, n int) { s.Phases[1].Min, s.Phases[1].Max = n, top }, 7, top - 49},
		{"Between, up to a round that is just Low", func(s *api.Site, n int) { s.Between[2][1] = n }, 2, top - 48},
		{"the lesser Between", func(s *api.Site, n int) { s.Between[0][1], s.Between[2][1] = n, top-48 }, 3, top - 48},
	})
	one := alone()
	one.Low, one.High = top, top
	one.Phases[0].Min, one.Phases[0].Max = top, top
	holdEdges(t, one, []edge{
		{"a group's Min", func(s *api.Site, n int) { s.Groups[0].Min = n }, 1, top},
		{"a group's Yellow", func(s *api.Site, n int) { s.Groups[0].Yellow = n }, 1, top},
		{"a phase's Min", func(s *api.Site, n int) { s.Phases[0].Min = n }, 1, top},
		{"a phase's Max", func(s *api.Site, n int) { s.Phases[0].Max = n }, top, top},
		{"a phase's Gap", func(s *api.Site, n int) { s.Phases[0].Gap = n }, 1, top},
		{"Low", func(s *api.Site, n int) { s.Low = n }, top, top},
		{"High", func(s *api.Site, n int) { s.High = n }, top, top},
		{"Low, where the round is 1", func(s *api.Site, n int) { s.Low, s.Phases[0].Min = n, 1 }, 1, top},
	})
}

// P5.1: of one phase a round is its Min, whatever groups it has.
func TestSitesOfOnePhase(t *testing.T) {
	holdEdges(t, alone(), []edge{
		{"Low", func(s *api.Site, n int) { s.Low = n }, 1, 1},
		{"Low, with High above it", func(s *api.Site, n int) { s.Low, s.High = n, top }, 1, top},
		{"a plan of all of its Cycle", func(s *api.Site, n int) { s.High, s.Plans = top, []api.Plan{{Cycle: n, Splits: []int{n}}} }, 1, top},
	})
	s := counted(16, 1, 0, 0)
	s.Phases[0].Min, s.Phases[0].Max = 9, 9
	for low, want := range map[int]api.Errno{8: api.ErrSite, 9: api.OK} {
		if s.Low = low; Check(s) != want {
			t.Error(low, int(Check(s)))
		}
	}
}

// counted has so many of each; no two groups are apart, and each phase has all groups.
func counted(groups, phases, eyes, plans int) api.Site {
	s := api.Site{Watch: 1, Feed: 1, Heal: 1, Low: 30, High: 30}
	splits := make([]int, phases)
	for i := range groups {
		s.Groups = append(s.Groups, api.Group{Kind: uint8(1 + i%2), Min: 1, Yellow: 1})
		s.Apart = append(s.Apart, 0)
		s.Between = append(s.Between, make([]int, groups))
	}
	for i := range phases {
		s.Phases = append(s.Phases, api.Phase{Groups: 1<<groups - 1, Min: 1, Max: 1, Gap: 1})
		splits[i] = 30/phases + map[bool]int{true: 30 % phases}[i == 0]
	}
	for range eyes {
		s.Eyes = append(s.Eyes, api.Eye{On: 1, Off: 1, Turns: 1})
	}
	for range plans {
		s.Plans = append(s.Plans, api.Plan{Cycle: 30, Splits: splits})
	}
	return s
}

// P5.1, and the limits: none, the most, and one more.
func TestHowManyOfEach(t *testing.T) {
	for _, c := range []struct {
		groups, phases, eyes, plans int
		want                        api.Errno
	}{
		{1, 1, 0, 0, api.OK},
		{16, 8, 24, 8, api.OK},
		{0, 1, 0, 0, api.ErrSite}, {16, 1, 0, 0, api.OK}, {17, 1, 0, 0, api.ErrSite}, {31, 1, 0, 0, api.ErrSite}, {32, 1, 0, 0, api.ErrSite}, {40, 1, 0, 0, api.ErrSite},
		{2, 0, 0, 0, api.ErrSite}, {2, 8, 0, 0, api.OK}, {2, 9, 0, 0, api.ErrSite}, {2, 20, 0, 0, api.ErrSite},
		{2, 2, 24, 0, api.OK}, {2, 2, 25, 0, api.ErrSite}, {2, 2, 64, 0, api.ErrSite},
		{2, 2, 0, 8, api.OK}, {2, 2, 0, 9, api.ErrSite}, {2, 2, 0, 64, api.ErrSite},
		{0, 0, 0, 0, api.ErrSite},
	} {
		s := counted(c.groups, c.phases, c.eyes, c.plans)
		if e := Check(s); e != c.want {
			t.Error(c, int(e))
		}
		hold(t, s)
	}
	if e := Check(api.Site{}); e != api.ErrSite {
		t.Error(int(e))
	}
}

// P5.1, R1: a list that is too long is not gone through.
func TestListsWithoutEnd(t *testing.T) {
	for i, turn := range []func(s *api.Site){
		func(s *api.Site) { s.Groups = make([]api.Group, 1<<20) },
		func(s *api.Site) {
			s.Groups, s.Apart, s.Between = make([]api.Group, 1<<20), make([]uint32, 1<<20), make([][]int, 1<<20)
		},
		func(s *api.Site) { s.Apart = make([]uint32, 1<<20) },
		func(s *api.Site) { s.Between = make([][]int, 1<<20) },
		func(s *api.Site) { s.Between[1] = make([]int, 1<<20) },
		func(s *api.Site) { s.Phases = slices.Repeat(s.Phases, 1<<18) },
		func(s *api.Site) { s.Eyes = slices.Repeat(s.Eyes, 1<<18) },
		func(s *api.Site) { s.Plans = slices.Repeat(s.Plans, 1<<18) },
		func(s *api.Site) { s.Plans[0].Splits = make([]int, 1<<20) },
	} {
		s := three()
		if turn(&s); Check(s) != api.ErrSite {
			t.Error(i)
		}
	}
}

// P5.1: what is no number; each turn is told by the chapter alone.
func TestKindsAndSetsAndLengths(t *testing.T) {
	for i, c := range []struct {
		turn func(s *api.Site)
		want api.Errno
	}{
		{func(s *api.Site) { s.Groups[1].Kind = 0 }, api.ErrSite},
		{func(s *api.Site) { s.Groups[1].Kind = api.Wheels }, api.OK},
		{func(s *api.Site) { s.Groups[0].Kind = api.Feet }, api.OK},
		{func(s *api.Site) { s.Groups[2].Kind = 3 }, api.ErrSite},
		{func(s *api.Site) { s.Groups[0].Kind = 255 }, api.ErrSite},
		{func(s *api.Site) { s.Phases[0].Always = true }, api.OK},
		// Apart: not mutual, either way; a group itself; numbers of no group.
		{func(s *api.Site) { s.Apart[0] = 0; s.Between[0][1] = 0 }, api.ErrSite},
		{func(s *api.Site) { s.Apart[1] = 4; s.Between[1][0] = 0 }, api.ErrSite},
		{func(s *api.Site) { s.Apart[0] = 0; s.Apart[1] = 4; s.Between[0][1], s.Between[1][0] = 0, 0 }, api.OK},
		{func(s *api.Site) { s.Apart[0] = 3; s.Between[0][0] = 9; s.Phases = s.Phases[1:] }, api.ErrSite},
		{func(s *api.Site) { s.Apart[1] |= 2; s.Between[1][1] = 9 }, api.ErrSite},
		{func(s *api.Site) { s.Apart[2] |= 8 }, api.ErrSite},
		{func(s *api.Site) { s.Apart[0] |= 1 << 16 }, api.ErrSite},
		{func(s *api.Site) { s.Apart[0] |= 1 << 31 }, api.ErrSite},
		// Lists that are too short, too long, or not there.
		{func(s *api.Site) { s.Apart = s.Apart[:2] }, api.ErrSite},
		{func(s *api.Site) { s.Apart = append(s.Apart, 0) }, api.ErrSite},
		{func(s *api.Site) { s.Apart = nil }, api.ErrSite},
		{func(s *api.Site) { s.Between = s.Between[:2] }, api.ErrSite},
		{func(s *api.Site) { s.Between = append(s.Between, []int{0, 0, 0}) }, api.ErrSite},
		{func(s *api.Site) { s.Between = append(s.Between, nil) }, api.ErrSite},
		{func(s *api.Site) { s.Between = nil }, api.ErrSite},
		{func(s *api.Site) { s.Between[0] = s.Between[0][:2] }, api.ErrSite},
		{func(s *api.Site) { s.Between[2] = append(s.Between[2], 0) }, api.ErrSite},
		{func(s *api.Site) { s.Between[1] = nil }, api.ErrSite},
		{func(s *api.Site) { s.Groups = s.Groups[:2] }, api.ErrSite},
		{func(s *api.Site) { s.Groups = append(s.Groups, s.Groups[0]) }, api.ErrSite},
		{func(s *api.Site) { s.Phases = nil }, api.ErrSite},
		{func(s *api.Site) { s.Eyes = nil }, api.OK},
		{func(s *api.Site) { s.Plans = nil }, api.OK},
		{func(s *api.Site) { s.Eyes, s.Plans = []api.Eye{}, []api.Plan{} }, api.OK},
		// A phase's groups: none, of no number, apart; a group that is in no phase.
		{func(s *api.Site) { s.Phases[2].Groups = 0 }, api.ErrSite},
		{func(s *api.Site) { s.Phases[2].Groups = 12 }, api.ErrSite},
		{func(s *api.Site) { s.Phases[2].Groups = 4 | 1<<16 }, api.ErrSite},
		{func(s *api.Site) { s.Phases[2].Groups = 1 << 31 }, api.ErrSite},
		{func(s *api.Site) { s.Phases[2].Groups = 5 }, api.OK},
		{func(s *api.Site) { s.Phases[2].Groups = 6; s.Low, s.Plans = 1000, nil }, api.ErrSite},
		{func(s *api.Site) { s.Phases[1].Groups = 7; s.Low, s.Plans = 1000, nil }, api.ErrSite},
		{func(s *api.Site) { s.Phases[0].Groups = 4; s.Plans = nil }, api.ErrSite},
		{func(s *api.Site) { s.Phases[1].Groups = 4; s.Plans = nil }, api.ErrSite},
		{func(s *api.Site) { s.Eyes, s.Phases, s.Plans = nil, s.Phases[:2], nil }, api.OK},
		{func(s *api.Site) { s.Eyes, s.Phases, s.Plans = nil, s.Phases[1:], nil }, api.ErrSite},
		{func(s *api.Site) { s.Phases, s.Plans = s.Phases[:2], nil }, api.ErrSite},
		// Splits: too few, too many, each with the right sum.
		{func(s *api.Site) { s.Plans[0].Splits = []int{38, 23} }, api.ErrSite},
		{func(s *api.Site) { s.Plans[0].Splits = []int{61} }, api.ErrSite},
		{func(s *api.Site) { s.Plans[0].Splits = []int{21, 23, 17, 0} }, api.ErrSite},
		{func(s *api.Site) { s.Plans[1].Splits = []int{400, 350, 200, 50} }, api.ErrSite},
		{func(s *api.Site) { s.Plans[1].Splits = nil }, api.ErrSite},
		{func(s *api.Site) { s.Plans[1].Splits = []int{400, 350, 251} }, api.ErrSite},
		{func(s *api.Site) { s.Plans[1].Splits = []int{400, 350, 249} }, api.ErrSite},
	} {
		s := three()
		c.turn(&s)
		if e := Check(s); e != c.want {
			t.Error(i, int(e), "not", int(c.want), s)
		}
		hold(t, s)
	}
}

// P5.1: the round hangs on which phase is the next one, and goes from the last one to phase 0.
func TestRoundGoesInTheOrderOfPhases(t *testing.T) {
	s := three()
	s.Plans, s.Eyes = nil, nil
	s.Phases = []api.Phase{s.Phases[0], s.Phases[2], s.Phases[1]}
	// From group 2 alone to group 1 lie 13; from group 1 to the groups 0 and 2 lie 11: 8 and nothing, 17 and 13, 12 and 11.
	for low, want := range map[int]api.Errno{60: api.ErrSite, 61: api.OK} {
		if s.Low = low; Check(s) != want {
			t.Error(low, int(Check(s)))
		}
	}
	s.Between[1][0] = 30
	for low, want := range map[int]api.Errno{79: api.ErrSite, 80: api.OK} {
		if s.Low = low; Check(s) != want {
			t.Error(low, int(Check(s)))
		}
	}
}

// W8: splits whose sum would wrap round to the Cycle.
func TestSplitsThatWouldWrap(t *testing.T) {
	for _, splits := range [][]int{
		{math.MaxInt, math.MaxInt, 2 + 61},
		{math.MaxInt, math.MaxInt, 2 + 1000},
		{math.MaxInt - 100, math.MaxInt - 100, 202 + 61},
		{1 << 62, 1 << 62, math.MinInt + 61},
		{math.MinInt, 23, math.MinInt + 38},
		{1<<32 + 21, 23, 17},
		{61, 61, -61},
		{38, -1, 24},
	} {
		s := three()
		s.Plans[0].Splits = splits
		if e := Check(s); e != api.ErrSite {
			t.Error(splits, int(e))
		}
	}
	s := counted(1, 4, 0, 0)
	s.Plans = []api.Plan{{Cycle: 30, Splits: []int{1 << 62, 1 << 62, 1 << 62, 1<<62 + 30}}}
	if e := Check(s); e != api.ErrSite {
		t.Error("four", int(e))
	}
}

// ints are all numbers of a site, sets all of its sets.
func ints(s *api.Site) []*int {
	list := []*int{&s.Id, &s.Watch, &s.Feed, &s.Heal, &s.Low, &s.High}
	for i := range s.Groups {
		list = append(list, &s.Groups[i].Min, &s.Groups[i].Yellow)
		for j := range s.Between[i] {
			list = append(list, &s.Between[i][j])
		}
	}
	for i := range s.Phases {
		list = append(list, &s.Phases[i].Min, &s.Phases[i].Max, &s.Phases[i].Gap)
	}
	for i := range s.Eyes {
		list = append(list, &s.Eyes[i].Phase, &s.Eyes[i].On, &s.Eyes[i].Off, &s.Eyes[i].Turns)
	}
	for i := range s.Plans {
		list = append(list, &s.Plans[i].Cycle, &s.Plans[i].Offset)
		for j := range s.Plans[i].Splits {
			list = append(list, &s.Plans[i].Splits[j])
		}
	}
	return list
}

func sets(s *api.Site) []*uint32 {
	var list []*uint32
	for i := range s.Apart {
		list = append(list, &s.Apart[i])
	}
	for i := range s.Phases {
		list = append(list, &s.Phases[i].Groups)
	}
	return list
}

// P5.1: each number of each sort of site, one at a time, at every number that bounds one.
func TestEachNumberAgainstTheWords(t *testing.T) {
	bounds := []int{math.MinInt, -1, 0, 1, 7, 8, 9, 63, 64, 65, 65535, 65536, top - 1, top, top + 1, 1 << 32, math.MaxInt}
	for _, s := range []api.Site{two(), three(), alone(), greatest()} {
		for i, p := range ints(&s) {
			old := *p
			for _, n := range append(bounds, old-2, old-1, old+1, old+2, -old) {
				*p = n
				hold(t, s)
			}
			if *p = old; i == 0 {
				hold(t, s)
			}
		}
		for _, p := range sets(&s) {
			old := *p
			for i := range 32 {
				*p = old ^ 1<<i
				hold(t, s)
			}
			for _, set := range []uint32{0, 1, math.MaxUint32, 0xffff, ^old} {
				*p = set
				hold(t, s)
			}
			*p = old
		}
		for i := range s.Groups {
			old := s.Groups[i].Kind
			for kind := range 256 {
				s.Groups[i].Kind = uint8(kind)
				hold(t, s)
			}
			s.Groups[i].Kind = old
		}
	}
}

// P5.1: some numbers a little beside what they were, in sites of all sizes.
func TestSpreadSitesAgainstTheWords(t *testing.T) {
	chance, well := rand.New(rand.NewPCG(5, 2)), 0
	for range 20000 {
		s := some(chance)
		numbers, bits := ints(&s), sets(&s)
		for range 1 + chance.IntN(3) {
			switch chance.IntN(8) {
			case 0:
				*bits[chance.IntN(len(bits))] ^= 1 << chance.IntN(len(s.Groups)+1)
			case 1:
				s.Phases = append(s.Phases[:chance.IntN(len(s.Phases)+1)], s.Phases[chance.IntN(len(s.Phases)):]...)
			default:
				*numbers[chance.IntN(len(numbers))] += chance.IntN(5) - 2
			}
		}
		hold(t, s)
		if Check(s) == api.OK {
			well++
		}
	}
	if well < 1000 || well > 19000 {
		t.Error("too few of one sort:", well)
	}
}
