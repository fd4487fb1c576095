package plan

import (
	"math/rand/v2"
	"slices"

	"stopline/api"
)

// example is the site of the chapter's examples.
func example() api.Site {
	g := api.Group{Kind: api.Wheels, Min: 2, Yellow: 1}
	return api.Site{
		Id:      1,
		Groups:  []api.Group{g, g, {Kind: api.Feet, Min: 3, Yellow: 2}},
		Apart:   []uint32{6, 1, 1},
		Between: [][]int{{0, 2, 3}, {2, 0, 0}, {4, 0, 0}},
		Phases:  []api.Phase{{Groups: 1, Min: 2, Max: 9, Gap: 1}, {Groups: 6, Min: 3, Max: 9, Gap: 1}},
		Watch:   9, Feed: 2, Heal: 3, Low: 30, High: 60,
	}
}

// siteOf is a site of groups: two are apart, if between tells something of them. Its phases are these sets, or, if there are none, each takes those groups that no phase ahead of it has and that may go together. Low and High are the least round.
func siteOf(groups []api.Group, between [][]int, sets ...uint32) api.Site {
	s := api.Site{Id: 9, Groups: groups, Between: between, Watch: 9, Feed: 2, Heal: 3}
	for _, row := range between {
		set := uint32(0)
		for b, n := range row {
			if n > 0 {
				set += 1 << uint(b)
			}
		}
		s.Apart = append(s.Apart, set)
	}
	if len(sets) == 0 {
		sets = parted(s)
	}
	mins := []int{}
	for _, set := range sets {
		least := 0
		for i, g := range groups {
			if set>>uint(i)%2 == 1 {
				least = max(least, g.Min)
			}
		}
		s.Phases, mins = append(s.Phases, api.Phase{Groups: set, Gap: 1}), append(mins, least)
	}
	return lasting(s, mins...)
}

// parted are all groups of a site in sets of those that may go together.
func parted(s api.Site) []uint32 {
	list := []uint32{}
	for left := uint32(1)<<uint(len(s.Groups)) - 1; left != 0; {
		set, barred := uint32(0), uint32(0)
		for i := range s.Groups {
			bit := uint32(1) << uint(i)
			if left&bit != 0 && barred&bit == 0 {
				set += bit
				barred |= s.Apart[i]
			}
		}
		left -= set
		list = append(list, set)
	}
	return list
}

// lasting gives the phases of a site their Mins; Low and High are the least round then.
func lasting(s api.Site, mins ...int) api.Site {
	s.Phases = slices.Clone(s.Phases)
	for i, n := range mins {
		s.Phases[i].Min, s.Phases[i].Max = n, n
	}
	return cycling(s, 0, 0)
}

// cycling lets a site's cycles be from so many above the least round to so many more.
func cycling(s api.Site, above, more int) api.Site {
	s.Low = slowRound(s) + above
	s.High = s.Low + more
	return s
}

// upToTop lets a site's cycles be from the least round to the greatest time.
func upToTop(s api.Site) api.Site {
	s = cycling(s, 0, 0)
	s.High = top
	return s
}

func alike(many, low, yellow int) []api.Group {
	return slices.Repeat([]api.Group{{Kind: api.Wheels, Min: low, Yellow: yellow}}, many)
}

// square is a Between of so many groups, of each two that are told apart so many.
func square(many int, tell func(a, b int) int) [][]int {
	rows := make([][]int, many)
	for a := range rows {
		rows[a] = make([]int, many)
		for b := range rows[a] {
			if a != b {
				rows[a][b] = tell(a, b)
			}
		}
	}
	return rows
}

func none(a, b int) int { return 0 }
func one(a, b int) int  { return 1 }

// alone has one group, and one phase.
func alone() api.Site { return cycling(siteOf(alike(1, 2, 1), square(1, none)), 0, 5) }

// pair has two groups that are apart, and the least of all.
func pair() api.Site { return cycling(siteOf(alike(2, 1, 1), square(2, one)), 0, 5) }

// three has three groups that are apart, a phase each, with a least part of 2 each.
func three() api.Site { return cycling(siteOf(alike(3, 1, 1), square(3, one)), 0, 34) }

// uneven has other least parts for each phase: from the first one 1 + 4, from the second one 2 + 3, from the third one 3 + 1.
func uneven() api.Site {
	s := siteOf(alike(3, 1, 1), [][]int{{0, 4, 2}, {1, 0, 3}, {1, 2, 0}})
	return cycling(lasting(s, 1, 2, 3), 1, 4)
}

// free has nothing between its phases: of one group, of two, of all of them, and of two others.
func free() api.Site {
	return cycling(siteOf(alike(4, 1, 1), square(4, none), 1, 6, 15, 3), 0, 4)
}

// half has something between its first and its second phase alone: the second one's groups are not apart from the third one's, nor these from the first one's.
func half() api.Site {
	return cycling(siteOf(alike(3, 2, 1), [][]int{{0, 3, 0}, {5, 0, 0}, {0, 0, 0}}, 1, 2, 4), 0, 6)
}

// far has the greatest between that there may be: two that are apart have a third one's phase between theirs.
func far() api.Site {
	return upToTop(siteOf(alike(3, 1, 1), [][]int{{0, top, 0}, {top - 1, 0, 0}, {0, 0, 0}}, 1, 4, 2, 4))
}

// wide has as much between two phases as a round may have.
func wide() api.Site {
	return siteOf(alike(2, 1, 1), [][]int{{0, top - 3}, {1, 0}})
}

// still has the greatest Min that there may be: there can be no other phase.
func still() api.Site { return siteOf(alike(1, top, top), square(1, none)) }

// crowded has as many groups and phases as a site may have: each two are apart, but a group and the one eight behind it.
func crowded() api.Site {
	return siteOf(alike(api.MaxGroups, 2, 2), square(api.MaxGroups, func(a, b int) int {
		if a%8 == b%8 {
			return 0
		}
		return 2 + (a+3*b)%4
	}))
}

// many has as many phases as may be, all of the same group.
func many() api.Site {
	return cycling(siteOf(alike(1, 1, 1), square(1, none), 1, 1, 1, 1, 1, 1, 1, 1), 0, 3)
}

// planned is a site that has plans and eyes of its own.
func planned() api.Site {
	s := example()
	s.Plans = []api.Plan{{Cycle: 40, Offset: 3, Splits: []int{20, 20}}, {Cycle: 60, Splits: []int{5, 55}}}
	s.Eyes = []api.Eye{{Phase: 1, On: 9, Off: 9, Turns: 3}}
	return s
}

func smallSites() []api.Site {
	return []api.Site{example(), alone(), pair(), cycling(three(), 0, 3), uneven(), free(), half(), many(), cycling(crowded(), 0, 9), crowded(), cycling(alone(), 3, 0), planned()}
}

func goodSites() []api.Site {
	return append(smallSites(), three(), far(), wide(), still(), upToTop(alone()), upToTop(pair()), upToTop(crowded()), upToTop(many()), upToTop(free()))
}

// badSites may not be.
func badSites() []api.Site {
	list := []api.Site{{}, {Groups: alike(1, 1, 1)}, {Phases: []api.Phase{{Groups: 1, Min: 1, Max: 1, Gap: 1}}, Low: 5, High: 9}, siteOf(alike(17, 1, 1), square(17, none)), siteOf(alike(9, 1, 1), square(9, one)), siteOf(alike(1, 0, 1), square(1, none))}
	for _, spoil := range []func(s *api.Site){
		func(s *api.Site) { s.Heal = 0 },
		func(s *api.Site) { s.Low = 0 },
		func(s *api.Site) { s.Low = 11 },
		func(s *api.Site) { s.High = 29 },
		func(s *api.Site) { s.High = top + 1 },
		func(s *api.Site) { s.Phases = nil },
		func(s *api.Site) { s.Phases[1].Groups = 0 },
		func(s *api.Site) { s.Phases[0].Groups = 8 },
		func(s *api.Site) { s.Phases[0].Groups = 7 },
		func(s *api.Site) { s.Phases[0].Min = 0 },
		func(s *api.Site) { s.Phases[1].Gap = 0 },
		func(s *api.Site) { s.Between = nil },
		func(s *api.Site) { s.Apart[0] = 2 },
		func(s *api.Site) { s.Id = -1 },
		func(s *api.Site) { s.Plans = []api.Plan{{Cycle: 40, Splits: []int{20, 21}}} },
	} {
		s := example()
		spoil(&s)
		list = append(list, s)
	}
	return list
}

// anySite is one of few or many groups, of which those of one colour are never apart; some of its phases share groups. If it is long, each between and each yellow is below the Min of each phase.
func anySite(source *rand.Rand, long bool) api.Site {
	groups := make([]api.Group, 1+source.IntN(api.MaxGroups))
	if source.IntN(2) == 0 {
		groups = groups[:min(len(groups), 1+source.IntN(4))]
	}
	colour := make([]int, len(groups))
	for i := range groups {
		groups[i] = api.Group{Kind: uint8(1 + source.IntN(2)), Min: 1 + source.IntN(5), Yellow: 1 + source.IntN(3)}
		colour[i] = source.IntN(4)
	}
	apart := source.IntN(5)
	between := square(len(groups), none)
	for a := range groups {
		for b := range a {
			if colour[a] != colour[b] && source.IntN(5) < apart {
				between[a][b] = groups[a].Yellow + source.IntN(5)
				between[b][a] = groups[b].Yellow + source.IntN(5)
			}
		}
	}
	s := siteOf(groups, between)
	sets := parted(s)
	for len(sets) < 1+source.IntN(api.MaxPhases) {
		sets = append(sets, sets[source.IntN(len(sets))]&source.Uint32())
	}
	sets = slices.DeleteFunc(sets, func(set uint32) bool { return set == 0 })
	source.Shuffle(len(sets), func(i, k int) { sets[i], sets[k] = sets[k], sets[i] })
	s = siteOf(groups, between, sets...)
	mins := []int{}
	for _, p := range s.Phases {
		low := p.Min
		if long {
			low = max(low, slowLongest(s)+1)
		}
		mins = append(mins, low+source.IntN(3)*source.IntN(2))
	}
	return cycling(lasting(s, mins...), source.IntN(4), source.IntN(12))
}
