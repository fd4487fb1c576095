package ladder

import (
	"math"
	"slices"

	"stopline/api"
)

const top = api.MaxTicks

// example is the site of the chapter's examples, chapter 5's.
func example() api.Site {
	g := api.Group{Kind: api.Wheels, Min: 2, Yellow: 1}
	return api.Site{
		Groups:  []api.Group{g, g},
		Apart:   []uint32{2, 1},
		Between: [][]int{{0, 2}, {2, 0}},
		Phases:  []api.Phase{{Groups: 1, Min: 2, Max: 5, Gap: 1}, {Groups: 2, Min: 2, Max: 5, Gap: 1}},
		Watch:   3, Feed: 2, Heal: 4, Low: 8, High: 20,
	}
}

func healing(heal int) api.Site {
	s := example()
	s.Heal = heal
	return s
}

// planned has eyes and plans of its own; Watch and Feed are unlike its Heal.
func planned(heal int) api.Site {
	s := healing(heal)
	s.Id, s.Watch, s.Feed = 65535, 99, 77
	s.Eyes = []api.Eye{{On: 9, Off: 9, Turns: 3}, {Phase: 1, On: 7, Off: 5, Turns: 64}}
	s.Plans = []api.Plan{{Cycle: 8, Splits: []int{4, 4}}, {Cycle: 20, Offset: 19, Splits: []int{15, 5}}}
	return s
}

// single has one group and one phase, and the least of all but its Heal.
func single(heal int) api.Site {
	return api.Site{
		Groups:  []api.Group{{Kind: api.Feet, Min: 1, Yellow: 1}},
		Apart:   []uint32{0},
		Between: [][]int{{0}},
		Phases:  []api.Phase{{Groups: 1, Min: 1, Max: 1, Gap: 1}},
		Watch:   1, Feed: 1, Heal: heal, Low: 1, High: 1,
	}
}

// goodSites are some of this Heal.
func goodSites(heal int) []api.Site {
	return []api.Site{healing(heal), planned(heal), single(heal)}
}

func beyond(low, high int) []int {
	return []int{math.MinInt, -1, low - 1, high + 1, math.MaxInt}
}

// badSites may not be, in each of the ways of chapter 5, each for one cause as far as that can be.
func badSites() []api.Site {
	list := []api.Site{{}, {Heal: 4}, {Groups: example().Groups, Heal: 4}}
	bad := func(turn func(s *api.Site)) {
		s := planned(4)
		turn(&s)
		list = append(list, s)
	}
	for _, n := range beyond(1, top) {
		bad(func(s *api.Site) { s.Heal = n })
		bad(func(s *api.Site) { s.Watch = n })
		bad(func(s *api.Site) { s.Feed = n })
		bad(func(s *api.Site) { s.Groups[1].Min = n })
		bad(func(s *api.Site) { s.Groups[0].Yellow = n })
		bad(func(s *api.Site) { s.Phases[0].Min = n })
		bad(func(s *api.Site) { s.Phases[1].Max = n })
		bad(func(s *api.Site) { s.Phases[1].Gap = n })
		bad(func(s *api.Site) { s.Eyes[0].On = n })
		bad(func(s *api.Site) { s.Eyes[1].Off = n })
		bad(func(s *api.Site) { s.Between[1][0] = n })
		bad(func(s *api.Site) { s.Low, s.Plans = n, nil })
		bad(func(s *api.Site) { s.High, s.Plans = n, nil })
	}
	for _, n := range beyond(1, 64) {
		bad(func(s *api.Site) { s.Eyes[1].Turns = n })
	}
	for _, n := range beyond(0, 1) {
		bad(func(s *api.Site) { s.Eyes[1].Phase = n })
	}
	for _, n := range beyond(0, 65535) {
		bad(func(s *api.Site) { s.Id = n })
	}
	for _, n := range beyond(0, 0) {
		bad(func(s *api.Site) { s.Between[0][0] = n })
	}
	for _, n := range beyond(8, 20) {
		bad(func(s *api.Site) { s.Plans[0].Cycle = n })
	}
	for _, n := range beyond(0, 7) {
		bad(func(s *api.Site) { s.Plans[0].Offset = n })
	}
	return append(list, brokenSites()...)
}

// brokenSites are wrong in their lists, their sets and their kinds.
func brokenSites() []api.Site {
	var list []api.Site
	for _, turn := range []func(s *api.Site){
		func(s *api.Site) { s.Groups = nil },
		func(s *api.Site) { s.Groups = slices.Repeat(s.Groups, 9) },
		func(s *api.Site) { s.Groups[0].Kind = 0 },
		func(s *api.Site) { s.Groups[1].Kind = 3 },
		func(s *api.Site) { s.Groups[1].Kind = 255 },
		func(s *api.Site) { s.Apart = nil },
		func(s *api.Site) { s.Apart = s.Apart[:1] },
		func(s *api.Site) { s.Apart = append(s.Apart, 0) },
		func(s *api.Site) { s.Apart[0] = 3 },
		func(s *api.Site) { s.Apart[0] = 6 },
		func(s *api.Site) { s.Apart[1] = 0 },
		func(s *api.Site) { s.Between = nil },
		func(s *api.Site) { s.Between = s.Between[:1] },
		func(s *api.Site) { s.Between = append(s.Between, []int{0, 0}) },
		func(s *api.Site) { s.Between[0] = s.Between[0][:1] },
		func(s *api.Site) { s.Between[1] = []int{2, 0, 0} },
		func(s *api.Site) { s.Groups[0].Yellow = 3 },
		func(s *api.Site) { s.Phases = nil },
		func(s *api.Site) { s.Phases, s.Low, s.High, s.Plans = slices.Repeat(s.Phases, 5), 100, 100, nil },
		func(s *api.Site) { s.Phases[1].Groups = 0 },
		func(s *api.Site) { s.Phases[1].Groups = 6 },
		func(s *api.Site) { s.Phases[1].Groups = 3 },
		func(s *api.Site) { s.Phases[1].Groups = 1 },
		func(s *api.Site) { s.Phases[0].Min = 1 },
		func(s *api.Site) { s.Phases[0].Max = 1 },
		func(s *api.Site) { s.Eyes = slices.Repeat(s.Eyes, 13) },
		func(s *api.Site) { s.Low = 7 },
		func(s *api.Site) { s.High = 7 },
		func(s *api.Site) { s.Plans = slices.Repeat(s.Plans, 5) },
		func(s *api.Site) { s.Plans[0].Splits = nil },
		func(s *api.Site) { s.Plans[0].Splits = []int{8} },
		func(s *api.Site) { s.Plans[0].Splits = []int{4, 4, 0} },
		func(s *api.Site) { s.Plans[0].Splits = []int{5, 3} },
		func(s *api.Site) { s.Plans[1].Splits = []int{15, 6} },
		func(s *api.Site) { s.Plans[1].Splits = []int{15, 4} },
	} {
		s := planned(4)
		turn(&s)
		list = append(list, s)
	}
	return list
}
