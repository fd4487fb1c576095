package call

import (
	"math"
	"math/rand/v2"
	"slices"

	"stopline/api"
	"stopline/site"
)

const top = api.MaxTicks

// What the chapter says, word by word, and by other means than the package: sets are lists of numbers, rising.

// numbersOf are the numbers of a set.
func numbersOf(c uint32) []int {
	list := []int{}
	for i := 0; c > 0; i, c = i+1, c/2 {
		if c%2 == 1 {
			list = append(list, i)
		}
	}
	return list
}

// setOf is the set of numbers, each of which may come more than once.
func setOf(list ...int) uint32 {
	sum := uint32(0)
	for _, i := range slices.Compact(slices.Sorted(slices.Values(list))) {
		worth := uint32(1)
		for range i {
			worth *= 2
		}
		sum += worth
	}
	return sum
}

// phasesOf are the numbers of a site's phases.
func phasesOf(s api.Site) []int {
	list := []int{}
	for range s.Phases {
		list = append(list, len(list))
	}
	return list
}

// slowEyes are eye.Well's errors.
func slowEyes(s api.Site, l []api.Looked) api.Errno {
	if site.Check(s) != api.OK {
		return api.ErrSite
	}
	if len(l) != len(s.Eyes) {
		return api.ErrMany
	}
	for _, x := range l {
		if x.Same < 0 || x.Same > 1048576 || x.Well < 0 || x.Well > 1048576 || !x.Bad && x.Well != 0 {
			return api.ErrBad
		}
	}
	return api.OK
}

// slowCalls are the errors of calls and of a phase's number, of a site that may be.
func slowCalls(s api.Site, c uint32, phase int) api.Errno {
	there := phasesOf(s)
	for _, i := range numbersOf(c) {
		if !slices.Contains(there, i) {
			return api.ErrBad
		}
	}
	if phase != -1 && !slices.Contains(there, phase) {
		return api.ErrArg
	}
	return api.OK
}

// slowWanted tells whether a phase is wanted.
func slowWanted(s api.Site, l []api.Looked, phase int) bool {
	if s.Phases[phase].Always {
		return true
	}
	for i, eye := range s.Eyes {
		if eye.Phase == phase && (l[i].Up || l[i].Bad) {
			return true
		}
	}
	return false
}

func slowReal(s api.Site, l []api.Looked) (uint32, api.Errno) {
	if e := slowEyes(s, l); e != api.OK {
		return 0, e
	}
	list := []int{}
	for _, phase := range phasesOf(s) {
		if slowWanted(s, l, phase) {
			list = append(list, phase)
		}
	}
	return setOf(list...), api.OK
}

func slowNext(s api.Site, c uint32, l []api.Looked, green int) (uint32, api.Errno) {
	real, e := slowReal(s, l)
	if e != api.OK {
		return 0, e
	}
	if e := slowCalls(s, c, green); e != api.OK {
		return 0, e
	}
	all := append(numbersOf(c), numbersOf(real)...)
	return setOf(slices.DeleteFunc(all, func(phase int) bool { return phase == green })...), api.OK
}

// slowRound are all phases, in the order in which they come behind one, or behind none.
func slowRound(s api.Site, phase int) []int {
	list := phasesOf(s)
	if phase == -1 {
		return list
	}
	return append(slices.Clone(list[phase+1:]), list[:phase+1]...)
}

func slowFirst(s api.Site, c uint32, phase int) (int, api.Errno) {
	if site.Check(s) != api.OK {
		return 0, api.ErrSite
	}
	if e := slowCalls(s, c, phase); e != api.OK {
		return 0, e
	}
	called := numbersOf(c)
	for _, next := range slowRound(s, phase) {
		if slices.Contains(called, next) {
			return next, api.OK
		}
	}
	return -1, api.OK
}

// example is the site of chapter 13's examples, its phase 1 Always.
func example() api.Site {
	g := api.Group{Kind: api.Wheels, Min: 2, Yellow: 1}
	return api.Site{
		Groups:  []api.Group{g, g},
		Apart:   []uint32{2, 1},
		Between: [][]int{{0, 2}, {2, 0}},
		Phases:  []api.Phase{{Groups: 1, Min: 2, Max: 5, Gap: 1}, {Groups: 2, Min: 2, Max: 5, Gap: 1, Always: true}},
		Eyes:    []api.Eye{{Phase: 0, On: 3, Off: 9, Turns: 2}},
		Watch:   3, Feed: 2, Heal: 4, Low: 8, High: 20,
	}
}

// wide is a site with so many phases of a group each, of which these are Always, and with an eye of each of the phases in eyes.
func wide(phases int, always uint32, eyes ...int) api.Site {
	s := api.Site{Watch: 1, Feed: 1, Heal: 2, Low: phases, High: top}
	for i := range phases {
		s.Groups = append(s.Groups, api.Group{Kind: api.Feet, Min: 1, Yellow: 1})
		s.Apart = append(s.Apart, 0)
		s.Between = append(s.Between, make([]int, phases))
		s.Phases = append(s.Phases, api.Phase{Groups: 1 << i, Min: 1, Max: 1, Gap: 1, Always: slices.Contains(numbersOf(always), i)})
	}
	for _, phase := range eyes {
		s.Eyes = append(s.Eyes, api.Eye{Phase: phase, On: 5, Off: 40, Turns: 20})
	}
	return s
}

// looks reads detectors: 0 is all zero, u says up, b is not believed, w is neither believed nor down.
func looks(text string) []api.Looked {
	list := []api.Looked{}
	for _, r := range text {
		list = append(list, api.Looked{Up: r == 'u' || r == 'w', Bad: r == 'b' || r == 'w'})
	}
	return list
}

// wrongLooks are detectors that may not be, whether they want or not.
func wrongLooks() []api.Looked {
	list := []api.Looked{{Well: 1}, {Well: top}, {Up: true, Same: 3, Well: 1}}
	for _, n := range []int{math.MinInt, -1, top + 1, 1 << 32, math.MaxInt} {
		list = append(list, api.Looked{Same: n}, api.Looked{Up: true, Same: n}, api.Looked{Bad: true, Same: n}, api.Looked{Bad: true, Well: n})
	}
	return list
}

// badSites may not be.
func badSites() []api.Site {
	list := []api.Site{{}, {Eyes: []api.Eye{{On: 1, Off: 1, Turns: 1}}}, wide(9, 0), wide(9, 511, 0, 8), wide(32, 0), wide(33, 1<<31, 0), wide(3, 0, 3), wide(3, 0, 0, -1), wide(3, 0, 0, math.MinInt), wide(3, 0, 32), wide(3, 0, make([]int, api.MaxEyes+1)...)}
	for _, spoil := range []func(s *api.Site){
		func(s *api.Site) { s.Heal = 0 },
		func(s *api.Site) { s.Low = 0 },
		func(s *api.Site) { s.Phases = nil },
		func(s *api.Site) { s.Phases[1].Groups = 0 },
		func(s *api.Site) { s.Eyes[0].On = 0 },
		func(s *api.Site) { s.Between = nil },
	} {
		s := example()
		spoil(&s)
		list = append(list, s)
	}
	return list
}

// numbersAround are greens and phases at their edges, for a site of so many phases.
func numbersAround(phases int) []int {
	return []int{math.MinInt, math.MinInt + 1, -1 << 32, -33, -32, -9, -8, -3, -2, -1, 0, 1, phases - 2, phases - 1, phases, phases + 1, 7, 8, 9, 31, 32, 33, 63, 64, 1 << 31, 1 << 32, math.MaxInt - 1, math.MaxInt}
}

// callsAround are calls at their edges: none, each phase alone, all of them, and each number that is no phase's, alone and beside those that are.
func callsAround(phases int) []uint32 {
	all := setOf(phasesOf(wide(phases, 0))...)
	list := []uint32{0, all, all / 2, math.MaxUint32, math.MaxUint32 - all}
	for i := range 32 {
		one := setOf(i)
		list = append(list, one)
		if i >= phases {
			list = append(list, one+1, one+all, one+all/2)
		}
	}
	return list
}

// anySite is a site with any phases, some of them Always, and any eyes.
func anySite(source *rand.Rand) api.Site {
	phases := 1 + source.IntN(api.MaxPhases)
	eyes := []int{}
	for range source.IntN(api.MaxEyes + 1) {
		eyes = append(eyes, source.IntN(phases))
	}
	return wide(phases, source.Uint32()&source.Uint32(), eyes...)
}

// anyLooks are detectors that may be, few of which want.
func anyLooks(source *rand.Rand, many int) []api.Looked {
	list := []api.Looked{}
	for range many {
		x := api.Looked{Up: source.IntN(4) == 0, Same: source.IntN(top + 1), Turns: source.Uint64(), Bad: source.IntN(6) == 0}
		if x.Bad {
			x.Well = source.IntN(top + 1)
		}
		list = append(list, x)
	}
	return list
}
