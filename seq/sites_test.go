package seq

import (
	"math/rand/v2"
	"slices"

	"stopline/api"
)

// example is the site of the chapter's examples.
func example() api.Site {
	g := api.Group{Kind: api.Wheels, Min: 2, Yellow: 1}
	return api.Site{
		Id:      1,
		Groups:  []api.Group{g, g, {Kind: api.Feet, Min: 3, Yellow: 2}},
		Apart:   []uint32{6, 1, 1},
		Between: [][]int{{0, 2, 3}, {2, 0, 0}, {4, 0, 0}},
		Phases:  []api.Phase{{Groups: 1, Min: 2, Max: 9, Gap: 1}, {Groups: 6, Min: 3, Max: 9, Gap: 1}},
		Watch:   9, Feed: 2, Heal: 3, Low: 30, High: 60,
	}
}

// siteOf is a site of groups: two are apart, if between tells something of them. Its phases are these sets, or, if there are none, each takes those groups that no phase ahead of it has and that may go together.
func siteOf(groups []api.Group, between [][]int, sets ...uint32) api.Site {
	s := api.Site{Id: 9, Groups: groups, Between: between, Watch: 9, Feed: 2, Heal: 3, Low: top, High: top}
	for _, row := range between {
		set := uint32(0)
		for b, n := range row {
			if n > 0 {
				set += 1 << uint(b)
			}
		}
		s.Apart = append(s.Apart, set)
	}
	if len(sets) == 0 {
		sets = parted(s)
	}
	for _, set := range sets {
		p := api.Phase{Groups: set, Gap: 1}
		for i, g := range groups {
			if set>>uint(i)%2 == 1 {
				p.Min = max(p.Min, g.Min)
			}
		}
		p.Max = p.Min + 3
		s.Phases = append(s.Phases, p)
	}
	return s
}

// parted are all groups of a site in sets of those that may go together.
func parted(s api.Site) []uint32 {
	list := []uint32{}
	for left := uint32(1)<<uint(len(s.Groups)) - 1; left != 0; {
		set, barred := uint32(0), uint32(0)
		for i := range s.Groups {
			bit := uint32(1) << uint(i)
			if left&bit != 0 && barred&bit == 0 {
				set += bit
				barred |= s.Apart[i]
			}
		}
		left -= set
		list = append(list, set)
	}
	return list
}

func group(low, yellow int) api.Group {
	return api.Group{Kind: api.Wheels, Min: low, Yellow: yellow}
}

func alike(many, low, yellow int) []api.Group {
	return slices.Repeat([]api.Group{group(low, yellow)}, many)
}

// square is a Between of so many groups, of each two that are told apart so many.
func square(many int, tell func(a, b int) int) [][]int {
	rows := make([][]int, many)
	for a := range rows {
		rows[a] = make([]int, many)
		for b := range rows[a] {
			if a != b {
				rows[a][b] = tell(a, b)
			}
		}
	}
	return rows
}

func none(a, b int) int { return 0 }

// lasting gives the phases of a site their Min and Max, one pair behind the other.
func lasting(s api.Site, pairs ...int) api.Site {
	s.Phases = slices.Clone(s.Phases)
	for i := range len(pairs) / 2 {
		s.Phases[i].Min, s.Phases[i].Max = pairs[2*i], pairs[2*i+1]
	}
	return s
}

// always lets just those phases be called always that are told.
func always(s api.Site, set uint32) api.Site {
	s.Phases = slices.Clone(s.Phases)
	for i := range s.Phases {
		s.Phases[i].Always = set>>uint(i)%2 == 1
	}
	return s
}

// alone has one group, and one phase.
func alone() api.Site { return siteOf(alike(1, 2, 1), square(1, none)) }

// free has no two that are apart: its phases are of one group, of two, and of all of them.
func free() api.Site {
	groups := []api.Group{group(2, 1), group(3, 4), group(1, 2), group(2, 2)}
	return siteOf(groups, square(4, none), 1, 6, 15, 3)
}

// shared has a group that is in both phases, beside two that are apart.
func shared() api.Site {
	return siteOf([]api.Group{group(3, 2), group(1, 1), group(4, 1)}, [][]int{{0, 2, 0}, {3, 0, 0}, {0, 0, 0}}, 5, 6)
}

// three has three groups that are apart, a phase each.
func three() api.Site {
	s := siteOf(alike(3, 1, 1), square(3, func(a, b int) int { return 1 + (a+b)%2 }))
	return lasting(s, 1, 3, 2, 2, 1, 1)
}

// far has the greatest between that there may be: a round may be no longer than that, so the two that are apart have a third one's phase between theirs.
func far() api.Site {
	s := siteOf(alike(3, 1, 1), [][]int{{0, top, 0}, {top - 1, 0, 0}, {0, 0, 0}}, 1, 4, 2, 4)
	return lasting(s, 1, top, 1, top, 1, top, 1, top)
}

// patient has the greatest Min that a phase may have beside another one, and the greatest Max.
func patient() api.Site {
	return lasting(siteOf(alike(2, 1, 1), square(2, none), 1, 2), top-1, top, 1, top)
}

// still has the greatest Min and Max that there may be: there can be no other phase.
func still() api.Site { return lasting(siteOf(alike(1, top, top), square(1, none)), top, top) }

// quick has the least of all.
func quick() api.Site {
	return lasting(siteOf(alike(2, 1, 1), square(2, func(a, b int) int { return 1 })), 1, 1, 1, 1)
}

// crowded has as many groups and phases as a site may have: each two are apart, but a group and the one eight behind it.
func crowded() api.Site {
	return siteOf(alike(api.MaxGroups, 2, 2), square(api.MaxGroups, func(a, b int) int {
		if a%8 == b%8 {
			return 0
		}
		return 2 + (a+3*b)%4
	}))
}

// together has as many groups as may be, all of them in one phase.
func together() api.Site { return siteOf(alike(api.MaxGroups, 3, 2), square(api.MaxGroups, none)) }

// many has as many phases as may be, all of the same group.
func many() api.Site { return siteOf(alike(1, 1, 1), square(1, none), 1, 1, 1, 1, 1, 1, 1, 1) }

func smallSites() []api.Site {
	return []api.Site{example(), alone(), free(), shared(), three(), quick(), many(), always(three(), 2), always(example(), 3), always(example(), 1)}
}

func goodSites() []api.Site {
	return append(smallSites(), far(), patient(), still(), crowded(), together(), always(crowded(), 255), always(crowded(), 128))
}

// badSites may not be.
func badSites() []api.Site {
	list := []api.Site{{}, {Groups: alike(1, 1, 1)}, {Phases: []api.Phase{{Groups: 1, Min: 1, Max: 1, Gap: 1}}}, siteOf(alike(17, 1, 1), square(17, none)), siteOf(alike(9, 1, 1), square(9, func(a, b int) int { return 1 })), lasting(alone(), top+1, top+1), lasting(patient(), top, top)}
	for _, spoil := range []func(s *api.Site){
		func(s *api.Site) { s.Heal = 0 },
		func(s *api.Site) { s.Low = 0 },
		func(s *api.Site) { s.Phases = nil },
		func(s *api.Site) { s.Phases[1].Groups = 0 },
		func(s *api.Site) { s.Phases[0].Groups = 8 },
		func(s *api.Site) { s.Phases[0].Groups = 7 },
		func(s *api.Site) { s.Phases[0].Min = 0 },
		func(s *api.Site) { s.Phases[0].Max = 1 },
		func(s *api.Site) { s.Phases[1].Max = top + 1 },
		func(s *api.Site) { s.Phases[1].Gap = 0 },
		func(s *api.Site) { s.Between = nil },
		func(s *api.Site) { s.Apart[0] = 2 },
		func(s *api.Site) { s.Id = -1 },
	} {
		s := example()
		spoil(&s)
		list = append(list, s)
	}
	return list
}

// anySite is one of few or many groups, of which those of one colour are never apart; some of its phases share groups, if they may, and some are called always.
func anySite(source *rand.Rand, share bool) api.Site {
	groups := make([]api.Group, 1+source.IntN(api.MaxGroups))
	if source.IntN(2) == 0 {
		groups = groups[:min(len(groups), 1+source.IntN(4))]
	}
	colour := make([]int, len(groups))
	for i := range groups {
		groups[i] = api.Group{Kind: uint8(1 + source.IntN(2)), Min: 1 + source.IntN(5), Yellow: 1 + source.IntN(3)}
		colour[i] = source.IntN(4)
	}
	apart := source.IntN(5)
	between := square(len(groups), none)
	for a := range groups {
		for b := range a {
			if colour[a] != colour[b] && source.IntN(5) < apart {
				between[a][b] = groups[a].Yellow + source.IntN(6)
				between[b][a] = groups[b].Yellow + source.IntN(6)
			}
		}
	}
	s := siteOf(groups, between)
	sets := parted(s)
	for share && len(sets) < 1+source.IntN(api.MaxPhases) {
		sets = append(sets, sets[source.IntN(len(sets))]&source.Uint32())
	}
	sets = slices.DeleteFunc(sets, func(set uint32) bool { return set == 0 })
	s = siteOf(groups, between, sets...)
	for i := range s.Phases {
		s.Phases[i].Min += source.IntN(3)
		s.Phases[i].Max = s.Phases[i].Min + source.IntN(6)*source.IntN(2)
		s.Phases[i].Always = source.IntN(4) == 0
	}
	return s
}
