package site

import (
	"math"
	"math/rand/v2"
	"reflect"
	"slices"
	"testing"

	"stopline/api"
)

// The rows of the chapter's Examples.
func TestExamples(t *testing.T) {
	for i, c := range []struct {
		turn func(s *api.Site)
		want api.Errno
	}{
		{func(s *api.Site) {}, api.OK},
		{func(s *api.Site) { s.Low = 7 }, api.ErrSite},
		{func(s *api.Site) { s.Between = [][]int{{0, 0}, {0, 0}} }, api.ErrSite},
		{func(s *api.Site) { s.Phases = []api.Phase{{Groups: 3, Min: 2, Max: 5, Gap: 1}} }, api.ErrSite},
	} {
		s := two()
		if c.turn(&s); Check(s) != c.want {
			t.Error(i, int(Check(s)))
		}
	}
	if n, e := Worst(two()); n != 2 || e != api.OK {
		t.Error("Worst", n, int(e))
	}
	for to, want := range map[int]int{0: 2, 1: 0} {
		if n, e := Clear(two(), 1, to); n != want || e != api.OK {
			t.Error("Clear", to, n, int(e))
		}
	}
	if n, e := Clear(two(), 0, 1); n != 2 || e != api.OK {
		t.Error("Clear", n, int(e))
	}
	if yes, e := Apart(two(), 0, 2); yes || e != api.ErrArg {
		t.Error("Apart", yes, int(e))
	}
	for i, c := range []struct {
		p    api.Plan
		want bool
	}{
		{api.Plan{Cycle: 10, Offset: 3, Splits: []int{5, 5}}, true},
		{api.Plan{Cycle: 10, Offset: 10, Splits: []int{5, 5}}, false},
		{api.Plan{Cycle: 10, Offset: 0, Splits: []int{7, 3}}, false},
	} {
		if yes, e := Plan(two(), c.p); yes != c.want || e != api.OK {
			t.Error("Plan", i, yes, int(e))
		}
	}
	if b, e := Whole(nil); len(b) != 1 || b[0] != 0 || e != api.OK {
		t.Error("Whole", b, int(e))
	}
	if b, e := Whole([]api.Plan{{Cycle: 0, Splits: []int{1}}}); len(b) != 0 || e != api.ErrPlan {
		t.Error("Whole", b, int(e))
	}
	if l, e := Parts(nil); len(l) != 0 || e != api.ErrBad {
		t.Error("Parts", l, int(e))
	}
}

// around are numbers of a list of so many, and those beyond, up to the ends of int.
func around(many int) []int {
	list := []int{math.MinInt, -1 << 32, -32, -16, -2, -1, many, many + 1, 16, 17, 31, 32, 33, 64, 1 << 32, math.MaxInt}
	for i := range many {
		list = append(list, i)
	}
	return list
}

func holdPair[T comparable](t *testing.T, name string, call func(api.Site, int, int) (T, api.Errno), want func(a, b int) T, s api.Site, many int) {
	t.Helper()
	for _, a := range around(many) {
		for _, b := range around(many) {
			var told T
			e := api.ErrArg
			if a >= 0 && a < many && b >= 0 && b < many {
				told, e = want(a, b), api.OK
			}
			if got, ge := call(s, a, b); got != told || ge != e {
				t.Fatal(name, a, b, got, int(ge), "not", told, int(e), s)
			}
		}
	}
}

// P5.2
func TestApartBetweenAndClear(t *testing.T) {
	for _, s := range sites() {
		groups, phases := len(s.Groups), len(s.Phases)
		holdPair(t, "Apart", Apart, func(a, b int) bool { return slowHas(s.Apart[a], b) }, s, groups)
		holdPair(t, "Between", Between, func(a, b int) int { return s.Between[a][b] }, s, groups)
		holdPair(t, "Clear", Clear, func(a, b int) int { return slowLies(s, a, b) }, s, phases)
	}
}

// P5.2: numbers that differ whichever way one goes.
func TestClearOfThree(t *testing.T) {
	for from, row := range [][]int{{0, 13, 0}, {11, 0, 11}, {0, 13, 0}} {
		for to, want := range row {
			if n, e := Clear(three(), from, to); n != want || e != api.OK {
				t.Error(from, to, n, int(e))
			}
		}
	}
}

// P5.2
func TestWorst(t *testing.T) {
	for _, s := range sites() {
		want := 0
		for a := range s.Groups {
			for b := range s.Groups {
				want = max(want, s.Between[a][b])
			}
		}
		if n, e := Worst(s); n != want || e != api.OK {
			t.Fatal(n, int(e), "not", want, s)
		}
	}
	// Wherever it stands.
	for a := range 16 {
		for b := range 16 {
			s := greatest()
			if s.Apart[a]>>b&1 == 0 {
				continue
			}
			s.Between[a][b] = 70001
			s.Low, s.Plans = top, nil
			if n, e := Worst(s); n != 70001 || e != api.OK {
				t.Error(a, b, n, int(e))
			}
		}
	}
	if n, e := Worst(alone()); n != 0 || e != api.OK {
		t.Error(n, int(e))
	}
}

func holdPlan(t *testing.T, s api.Site, p api.Plan) bool {
	t.Helper()
	yes, e := Plan(s, p)
	if yes != slowFits(s, p) || e != api.OK {
		t.Fatal("Plan", p, yes, int(e), s)
	}
	return yes
}

// P5.2: plans at and beside the edges of each of their numbers.
func TestPlan(t *testing.T) {
	s := three()
	for i, c := range []struct {
		p    api.Plan
		want bool
	}{
		{api.Plan{Cycle: 61, Splits: []int{21, 23, 17}}, true},
		{api.Plan{Cycle: 60, Splits: []int{20, 23, 17}}, false},
		{api.Plan{Cycle: 60, Splits: []int{21, 22, 17}}, false},
		{api.Plan{Cycle: 60, Splits: []int{21, 23, 16}}, false},
		{api.Plan{Cycle: 62, Splits: []int{20, 24, 18}}, false},
		{api.Plan{Cycle: 62, Splits: []int{22, 22, 18}}, false},
		{api.Plan{Cycle: 62, Splits: []int{22, 24, 16}}, false},
		{api.Plan{Cycle: 62, Splits: []int{21, 23, 17}}, false},
		{api.Plan{Cycle: 61, Splits: []int{21, 23, 18}}, false},
		{api.Plan{Cycle: 1000, Splits: []int{300, 300, 400}}, true},
		{api.Plan{Cycle: 1001, Splits: []int{301, 300, 400}}, false},
		{api.Plan{Cycle: 70, Offset: -1, Splits: []int{30, 23, 17}}, false},
		{api.Plan{Cycle: 70, Offset: 0, Splits: []int{30, 23, 17}}, true},
		{api.Plan{Cycle: 70, Offset: 69, Splits: []int{30, 23, 17}}, true},
		{api.Plan{Cycle: 70, Offset: 70, Splits: []int{30, 23, 17}}, false},
		{api.Plan{Cycle: 70, Offset: math.MinInt, Splits: []int{30, 23, 17}}, false},
		{api.Plan{Cycle: 70, Offset: math.MaxInt, Splits: []int{30, 23, 17}}, false},
		{api.Plan{Cycle: math.MinInt, Offset: math.MaxInt, Splits: []int{30, 23, 17}}, false},
		{api.Plan{Cycle: 70, Splits: []int{30, 40}}, false},
		{api.Plan{Cycle: 70, Splits: []int{30, 23, 17, 0}}, false},
		{api.Plan{Cycle: 70, Splits: nil}, false},
		{api.Plan{}, false},
		{api.Plan{Cycle: 70, Splits: []int{math.MaxInt, math.MaxInt, 72}}, false},
		{api.Plan{Cycle: 70, Splits: make([]int, 1<<16)}, false},
	} {
		if yes := holdPlan(t, s, c.p); yes != c.want {
			t.Error(i, yes)
		}
	}
}

// P5.2: plans that are beside one that may be.
func TestPlanOfSpreadPlans(t *testing.T) {
	chance, well := rand.New(rand.NewPCG(5, 3)), 0
	for range 500 {
		s := some(chance)
		for range 20 {
			p := somePlan(chance, s)
			if !holdPlan(t, s, p) {
				t.Fatal("one of it", p, s)
			}
			for range 1 + chance.IntN(2) {
				switch i := chance.IntN(len(p.Splits) + 3); i {
				case len(p.Splits):
					p.Cycle += chance.IntN(5) - 2
				case len(p.Splits) + 1:
					p.Offset += []int{-p.Offset - 1, -p.Offset, p.Cycle - p.Offset, p.Cycle - 1 - p.Offset}[chance.IntN(4)]
				case len(p.Splits) + 2:
					j, k := chance.IntN(len(p.Splits)), chance.IntN(len(p.Splits))
					p.Splits[j]++
					p.Splits[k]--
				default:
					p.Splits[i] += chance.IntN(3) - 1
				}
			}
			if holdPlan(t, s, p) {
				well++
			}
		}
	}
	if well < 1000 || well > 9000 {
		t.Error("too few of one sort:", well)
	}
}

// P5.2: of a site that may not be each call tells Check's error, whatever the numbers are, and nothing else.
func TestChecksErrorComesFirst(t *testing.T) {
	bad := []api.Site{{}, counted(17, 1, 0, 0), counted(2, 9, 0, 0)}
	for _, turn := range []func(s *api.Site){
		func(s *api.Site) { s.Low = 60 },
		func(s *api.Site) { s.Groups[2].Kind = 0 },
		func(s *api.Site) { s.Apart = nil },
		func(s *api.Site) { s.Between = nil },
		func(s *api.Site) { s.Between[2] = nil },
		func(s *api.Site) { s.Phases[1].Groups = 1 << 31 },
		func(s *api.Site) { s.Plans[1].Offset = 1000 },
	} {
		s := three()
		turn(&s)
		bad = append(bad, s)
	}
	for i, s := range bad {
		for _, a := range []int{math.MinInt, -1, 0, 1, 2, 3, 16, 40, math.MaxInt} {
			for _, b := range []int{math.MinInt, -1, 0, 1, 2, 3, 16, 40, math.MaxInt} {
				if yes, e := Apart(s, a, b); yes || e != api.ErrSite {
					t.Error("Apart", i, a, b, yes, int(e))
				}
				if n, e := Between(s, a, b); n != 0 || e != api.ErrSite {
					t.Error("Between", i, a, b, n, int(e))
				}
				if n, e := Clear(s, a, b); n != 0 || e != api.ErrSite {
					t.Error("Clear", i, a, b, n, int(e))
				}
			}
		}
		if n, e := Worst(s); n != 0 || e != api.ErrSite {
			t.Error("Worst", i, n, int(e))
		}
		for _, p := range append(three().Plans, api.Plan{}) {
			if yes, e := Plan(s, p); yes || e != api.ErrSite {
				t.Error("Plan", i, yes, int(e))
			}
		}
		if b, e := Write(s); len(b) != 0 || e != api.ErrSite {
			t.Error("Write", i, b, int(e))
		}
	}
}

// P5.5
func TestWhatFollowsOfGroups(t *testing.T) {
	for _, s := range sites() {
		for a := range s.Groups {
			for b := range s.Groups {
				yes, _ := Apart(s, a, b)
				if other, _ := Apart(s, b, a); yes != other {
					t.Error("Apart minds which comes first", a, b)
				}
				if n, _ := Between(s, a, b); yes != (n >= 1) {
					t.Error("Between", a, b, yes, n)
				}
			}
			if yes, _ := Apart(s, a, a); yes {
				t.Error("a group is apart from itself", a)
			}
		}
		for i := range s.Phases {
			if n, e := Clear(s, i, i); n != 0 || e != api.OK {
				t.Error("from a phase to itself lies", n, int(e))
			}
		}
		for _, p := range s.Plans {
			if yes, e := Plan(s, p); !yes || e != api.OK {
				t.Error("a plan of a site is none of it", p, int(e))
			}
		}
	}
}

// W1, W4, as far as a site reaches: a phase has no two that are apart, between covers a yellow, each group is in some phase, and a Low's cycle has room for all phases.
func TestWhatOtherLayersLeanOn(t *testing.T) {
	for _, s := range sites() {
		served, room := uint32(0), 0
		worst, _ := Worst(s)
		for i, p := range s.Phases {
			served |= p.Groups
			n, _ := Clear(s, i, (i+1)%len(s.Phases))
			if room += p.Min + n; n > worst {
				t.Error("a way longer than the worst one", n, worst)
			}
			for a := range s.Groups {
				for b := range s.Groups {
					if yes, _ := Apart(s, a, b); yes && slowHas(p.Groups, a) && slowHas(p.Groups, b) {
						t.Error("two that are apart are in one phase", i, a, b)
					}
				}
			}
		}
		for a, g := range s.Groups {
			for b := range s.Groups {
				if n, _ := Between(s, a, b); n != 0 && n < g.Yellow {
					t.Error("a between below a yellow", a, b, n)
				}
			}
		}
		if served != 1<<len(s.Groups)-1 || room > s.Low {
			t.Error(served, room, s.Low)
		}
	}
}

// P5.4, R2: what is handed in stays as it was, its spare room too, and the answers stay the same.
func TestSitesAreOnlyRead(t *testing.T) {
	chance := rand.New(rand.NewPCG(5, 4))
	for range 100 {
		s := roomy(some(chance))
		before := whole(s)
		plan := roomyPlan(somePlan(chance, s))
		planBefore := full(plan.Splits)
		first, _ := Write(s)
		for range 2 {
			Check(s)
			Apart(s, 0, 0)
			Between(s, 0, 0)
			Worst(s)
			Clear(s, 0, len(s.Phases)-1)
			Plan(s, plan)
			Whole(s.Plans)
			if b, _ := Write(s); !reflect.DeepEqual(first, b) {
				t.Fatal("Write told another thing")
			}
		}
		if !reflect.DeepEqual(before, whole(s)) || !slices.Equal(planBefore, full(plan.Splits)) {
			t.Fatal("a site was changed")
		}
	}
}

// withRoom is a list with room behind it that is not nought.
func withRoom[T any](list []T, x T) []T {
	return append(append(make([]T, 0, len(list)+3), list...), x, x, x)[:len(list)]
}

func roomyPlan(p api.Plan) api.Plan {
	p.Splits = withRoom(p.Splits, 77)
	return p
}

func roomy(s api.Site) api.Site {
	s = clone(s)
	for i := range s.Between {
		s.Between[i] = withRoom(s.Between[i], 77)
	}
	for i := range s.Plans {
		s.Plans[i] = roomyPlan(s.Plans[i])
	}
	s.Groups, s.Apart = withRoom(s.Groups, api.Group{Kind: 7, Min: 7, Yellow: 7}), withRoom(s.Apart, 77)
	s.Between = withRoom(s.Between, []int{7, 7})
	s.Phases, s.Eyes = withRoom(s.Phases, api.Phase{Groups: 7, Min: 7}), withRoom(s.Eyes, api.Eye{Phase: 7, On: 7})
	s.Plans = withRoom(s.Plans, api.Plan{Cycle: 7, Splits: []int{7}})
	return s
}

// full is a copy of a list with its spare room as elements.
func full[T any](list []T) []T { return slices.Clone(list[:cap(list)]) }

// whole is a copy of a site with all spare room of its lists as elements.
func whole(s api.Site) api.Site {
	s.Groups, s.Apart, s.Between = full(s.Groups), full(s.Apart), full(s.Between)
	s.Phases, s.Eyes, s.Plans = full(s.Phases), full(s.Eyes), full(s.Plans)
	for i := range s.Between {
		s.Between[i] = full(s.Between[i])
	}
	for i := range s.Plans {
		s.Plans[i].Splits = full(s.Plans[i].Splits)
	}
	return s
}
