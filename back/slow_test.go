package back

import (
	"math"
	"math/rand/v2"
	"slices"
	"strings"

	"stopline/api"
	"stopline/site"
)

const top = api.MaxTicks

// What the chapter says, word by word, and by other means than the package.

// slowLights is the error of a list that should have an aspect for each of so many groups.
func slowLights(groups int, lights []uint8) api.Errno {
	switch {
	case len(lights) < groups || len(lights) > groups:
		return api.ErrMany
	case len(lights) > 0 && slices.Max(lights) >= 5:
		return api.ErrArg
	}
	return api.OK
}

func slowErrors(groups int, want, shown []uint8) api.Errno {
	list := []api.Errno{slowLights(groups, want)}
	if len(shown) != 0 {
		list = append(list, slowLights(groups, shown))
	}
	for _, e := range list {
		if e != api.OK {
			return e
		}
	}
	return api.OK
}

func slowWrong(s api.Site, want, shown []uint8) (bool, api.Errno) {
	if e := site.Check(s); e != api.OK {
		return false, e
	}
	if e := slowErrors(len(s.Groups), want, shown); e != api.OK {
		return false, e
	}
	return len(shown) != 0 && string(want) != string(shown), api.OK
}

func slowNext(s api.Site, n int, want, shown []uint8) (int, api.Errno) {
	wrong, e := slowWrong(s, want, shown)
	switch {
	case site.Check(s) != api.OK:
		return 0, api.ErrSite
	case n < 0 || n > 1048576:
		return 0, api.ErrArg
	case e != api.OK:
		return 0, e
	case !wrong:
		return 0, api.OK
	case n == 1048576:
		return 1048576, api.OK
	}
	return n + 1, api.OK
}

func slowLatches(s api.Site, n int) (bool, api.Errno) {
	switch {
	case site.Check(s) != api.OK:
		return false, api.ErrSite
	case n < 0 || n > 1048576:
		return false, api.ErrArg
	}
	return !(n < s.Feed), api.OK
}

// lightsOf reads aspects by their letters; x and z are none.
func lightsOf(text string) []uint8 {
	list := []uint8{}
	for _, r := range text {
		if i := strings.IndexRune("DRGYFx", r); i >= 0 {
			list = append(list, uint8(i))
		} else {
			list = append(list, 255)
		}
	}
	return list
}

// alike is a site of so many groups, all of which go together in one phase.
func alike(groups, feed int) api.Site {
	s := api.Site{Id: 10, Watch: 3, Feed: feed, Heal: 4, Low: 2, High: 20}
	s.Phases = []api.Phase{{Groups: 1<<groups - 1, Min: 2, Max: 5, Gap: 1}}
	for range groups {
		s.Groups = append(s.Groups, api.Group{Kind: api.Wheels, Min: 2, Yellow: 1})
		s.Apart = append(s.Apart, 0)
		s.Between = append(s.Between, make([]int, groups))
	}
	return s
}

// two is the site of chapter 5.
func two() api.Site {
	s := alike(2, 2)
	s.Apart, s.Between = []uint32{2, 1}, [][]int{{0, 2}, {2, 0}}
	s.Phases = []api.Phase{{Groups: 1, Min: 2, Max: 5, Gap: 1}, {Groups: 2, Min: 2, Max: 5, Gap: 1}}
	s.Low = 8
	return s
}

// rich is a site with something in each of its lists.
func rich() api.Site {
	s := two()
	s.Eyes = []api.Eye{{Phase: 0, On: 9, Off: 9, Turns: 4}, {Phase: 1, On: 1, Off: top, Turns: 64}}
	s.Plans = []api.Plan{{Cycle: 10, Offset: 3, Splits: []int{5, 5}}, {Cycle: 8, Splits: []int{4, 4}}}
	return s
}

// sites are ones of few and of many groups, with the least and the greatest Feed among them.
func sites() []api.Site {
	list := []api.Site{two(), rich()}
	for _, groups := range []int{1, 2, 3, 7, api.MaxGroups - 1, api.MaxGroups} {
		for _, feed := range []int{1, 2, 3, 100, top - 1, top} {
			list = append(list, alike(groups, feed))
		}
	}
	return list
}

// badSites are ones of which something may not be, each of its own.
func badSites() map[string]api.Site {
	list := map[string]api.Site{"nothing": {}}
	broken := func(name string, change func(s *api.Site)) {
		s := rich()
		change(&s)
		list[name] = s
	}
	broken("Id", func(s *api.Site) { s.Id = 65536 })
	broken("no groups", func(s *api.Site) { s.Groups = nil })
	broken("one group more", func(s *api.Site) { s.Groups = append(s.Groups, s.Groups[0]) })
	broken("Kind", func(s *api.Site) { s.Groups[1].Kind = 3 })
	broken("Min", func(s *api.Site) { s.Groups[0].Min = 0 })
	broken("Apart", func(s *api.Site) { s.Apart[1] = 0 })
	broken("Between", func(s *api.Site) { s.Between[0][1] = 0 })
	broken("no phases", func(s *api.Site) { s.Phases = nil })
	broken("phase", func(s *api.Site) { s.Phases[0].Groups = 3 })
	broken("eye", func(s *api.Site) { s.Eyes[1].Phase = 2 })
	broken("Watch", func(s *api.Site) { s.Watch = 0 })
	broken("Feed 0", func(s *api.Site) { s.Feed = 0 })
	broken("Feed -1", func(s *api.Site) { s.Feed = -1 })
	broken("Feed above", func(s *api.Site) { s.Feed = top + 1 })
	broken("Feed least", func(s *api.Site) { s.Feed = math.MinInt })
	broken("Feed greatest", func(s *api.Site) { s.Feed = math.MaxInt })
	broken("Heal", func(s *api.Site) { s.Heal = math.MinInt })
	broken("Low", func(s *api.Site) { s.Low = 7 })
	broken("plan", func(s *api.Site) { s.Plans[0].Cycle = 9 })
	list["too many groups"] = alike(api.MaxGroups+1, 2)
	return list
}

// edges are counts at their bounds, and at a site's Feed.
func edges(feed int) []int {
	return []int{math.MinInt, -top, -1, 0, 1, feed - 1, feed, feed + 1, top - 1, top, top + 1, math.MaxInt - 1, math.MaxInt}
}

// every is all lists of up to so many aspects.
func every(most int, aspects []uint8) [][]uint8 {
	list := [][]uint8{nil, {}}
	for at := 1; at < len(list); at++ {
		if len(list[at]) == most {
			continue
		}
		for _, a := range aspects {
			list = append(list, append(slices.Clip(list[at]), a))
		}
	}
	return list
}

// anyLights are aspects of so many groups.
func anyLights(source *rand.Rand, groups int) []uint8 {
	list := make([]uint8, groups)
	for i := range list {
		list[i] = uint8(source.IntN(5))
	}
	return list
}
