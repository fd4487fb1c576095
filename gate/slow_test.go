package gate

import (
	"math/rand/v2"
	"slices"
	"testing"

	"stopline/api"
	"stopline/lamp"
	"stopline/safe"
)

const top = api.MaxTicks

// What the chapter says, word by word, and by other means than the package.

func slowApart(s api.Site, a, b int) bool { return s.Apart[a]/(1<<uint(b))%2 == 1 }

// apartPairs are each two groups that are apart, in both orders.
func apartPairs(s api.Site) [][2]int {
	var list [][2]int
	for a := range s.Groups {
		for b := range s.Groups {
			if slowApart(s, a, b) {
				list = append(list, [2]int{a, b})
			}
		}
	}
	return list
}

func slowGreatest(s api.Site) int {
	greatest := 0
	for _, p := range apartPairs(s) {
		greatest = max(greatest, s.Between[p[0]][p[1]])
	}
	return greatest
}

// slowMayBe is chapter 8's: it is not asked of package safe here.
func slowMayBe(s api.Site, now api.Safe) bool {
	if len(now.Groups) != len(s.Groups) || now.Start < 0 || now.Start > 1048576 {
		return false
	}
	meet := false
	for _, p := range apartPairs(s) {
		meet = meet || now.Groups[p[0]].Aspect != api.Red && now.Groups[p[1]].Aspect != api.Red
	}
	return !meet || many(aspectsOf(now), api.Flash) == len(s.Groups)
}

func slowGoesOn(s api.Site, now api.Safe) bool {
	if !slowMayBe(s, now) {
		return false
	}
	shown := aspectsOf(now)
	if now.Flashed {
		return many(shown, api.Flash) == len(shown)
	}
	if now.Start > 0 && many(shown, api.Red) < len(shown) {
		return false
	}
	return many(shown, api.Red)+many(shown, api.Green)+many(shown, api.Yellow) == len(shown)
}

func aspectsOf(now api.Safe) []uint8 {
	list := []uint8{}
	for _, g := range now.Groups {
		list = append(list, g.Aspect)
	}
	return list
}

func many(lights []uint8, aspect uint8) int {
	n := 0
	for _, a := range lights {
		if a == aspect {
			n++
		}
	}
	return n
}

// all is lights of which all groups show the same.
func all(s api.Site, aspect uint8) []uint8 { return slices.Repeat([]uint8{aspect}, len(s.Groups)) }

// slowLet is what is let through by the chapter's words: of each group on its own, the last one first, which asks those that it hangs on.
func slowLet(s api.Site, now api.Safe, asks []uint8) []uint8 {
	switch {
	case many(asks, api.Flash) == len(asks):
		return all(s, api.Flash)
	case now.Flashed || now.Start > 0:
		return all(s, api.Red)
	}
	pairs, known := apartPairs(s), map[int]uint8{}
	var let, first func(it int) uint8
	let = func(it int) uint8 {
		if _, is := known[it]; !is {
			known[it] = first(it)
		}
		return known[it]
	}
	first = func(it int) uint8 {
		if now.Groups[it].Aspect != api.Red {
			return lamp.Want(s.Groups[it], now.Groups[it], asks[it])
		}
		answer := asks[it]
		for _, p := range pairs {
			that := p[0]
			if p[1] != it || answer != api.Green {
				continue
			}
			later := that > it && now.Groups[that].Aspect == api.Red
			ended := min(max(now.Groups[that].Ended, 0), top)
			if ended < s.Between[that][it] || !later && let(that) != api.Red {
				answer = api.Red
			}
		}
		if answer == api.Green {
			return api.Green
		}
		return api.Red
	}
	lights := all(s, api.Dark)
	for it := len(lights) - 1; it >= 0; it-- {
		lights[it] = let(it)
	}
	return lights
}

// greedy is what is let through, if package safe is asked of each green whether it may be added to what is there by now.
func greedy(t *testing.T, s api.Site, now api.Safe, asks []uint8) []uint8 {
	t.Helper()
	fault := func(lights []uint8) uint8 {
		_, f, e := safe.Next(s, now, lights)
		if e != api.OK {
			t.Fatal(now, lights, e)
		}
		return f
	}
	if many(asks, api.Flash) == len(asks) {
		return slices.Clone(asks)
	}
	lights := all(s, api.Red)
	for i, g := range now.Groups {
		if g.Aspect != api.Red && !now.Flashed {
			lights[i] = lamp.Want(s.Groups[i], g, asks[i])
		}
	}
	if f := fault(lights); f != api.FaultNone {
		t.Fatal("without any new green", now, lights, f)
	}
	for i, g := range now.Groups {
		if g.Aspect == api.Red && asks[i] == api.Green {
			lights[i] = api.Green
			if fault(lights) != api.FaultNone {
				lights[i] = api.Red
			}
		}
	}
	return lights
}

func sameStanding(a, b api.Safe) bool {
	return a.Start == b.Start && a.Flashed == b.Flashed && slices.Equal(a.Groups, b.Groups)
}

func cloneStanding(a api.Safe) api.Safe {
	a.Groups = slices.Clone(a.Groups)
	return a
}

func cloneSite(s api.Site) api.Site {
	s.Groups, s.Apart, s.Phases = slices.Clone(s.Groups), slices.Clone(s.Apart), slices.Clone(s.Phases)
	s.Eyes, s.Between, s.Plans = slices.Clone(s.Eyes), slices.Clone(s.Between), slices.Clone(s.Plans)
	for i := range s.Between {
		s.Between[i] = slices.Clone(s.Between[i])
	}
	for i := range s.Plans {
		s.Plans[i].Splits = slices.Clone(s.Plans[i].Splits)
	}
	return s
}

func cloneTrace(trace [][]uint8) [][]uint8 {
	list := slices.Clone(trace)
	for i := range list {
		list[i] = slices.Clone(list[i])
	}
	return list
}

func sameTrace(a, b [][]uint8) bool { return slices.EqualFunc(a, b, slices.Equal) }

// siteOf is a site of groups: two are apart, if Between tells something of them; each phase takes those groups that no phase ahead of it has and that may go together.
func siteOf(groups []api.Group, between [][]int) api.Site {
	s := api.Site{Id: 9, Groups: groups, Between: between, Watch: 9, Feed: 2, Heal: 3, Low: top, High: top}
	for _, row := range between {
		set := uint32(0)
		for b, n := range row {
			if n > 0 {
				set += 1 << uint(b)
			}
		}
		s.Apart = append(s.Apart, set)
	}
	left := uint32(1)<<uint(len(groups)) - 1
	for left != 0 {
		p := api.Phase{Gap: 1}
		barred := uint32(0)
		for i, g := range groups {
			bit := uint32(1) << uint(i)
			if left&bit != 0 && barred&bit == 0 {
				p.Groups += bit
				barred |= s.Apart[i]
				p.Min = max(p.Min, g.Min)
			}
		}
		p.Max = p.Min + 5
		left -= p.Groups
		s.Phases = append(s.Phases, p)
	}
	return s
}

func alike(many, low, yellow int) []api.Group {
	return slices.Repeat([]api.Group{{Kind: api.Wheels, Min: low, Yellow: yellow}}, many)
}

// two is the site of the chapter's examples.
func two() api.Site { return siteOf(alike(2, 2, 1), [][]int{{0, 2}, {2, 0}}) }

// slow has a Min and a Yellow of some ticks, and another between from the first to the second than from that to the first.
func slow() api.Site {
	groups := []api.Group{{Kind: api.Wheels, Min: 4, Yellow: 3}, {Kind: api.Feet, Min: 3, Yellow: 2}}
	return siteOf(groups, [][]int{{0, 5}, {3, 0}})
}

// near has a greatest between of 1.
func near() api.Site { return siteOf(alike(2, 1, 1), [][]int{{0, 1}, {1, 0}}) }

// free has two groups that are not apart.
func free() api.Site { return siteOf(alike(2, 2, 1), [][]int{{0, 0}, {0, 0}}) }

func alone() api.Site { return siteOf(alike(1, 2, 1), [][]int{{0}}) }

// three has a group that is apart from the one ahead of it and from the one behind it, which are not apart.
func three() api.Site {
	groups := []api.Group{{Kind: api.Wheels, Min: 2, Yellow: 1}, {Kind: api.Feet, Min: 3, Yellow: 2}, {Kind: api.Wheels, Min: 1, Yellow: 3}}
	return siteOf(groups, [][]int{{0, 4, 0}, {2, 0, 3}, {0, 6, 0}})
}

// ring has three groups, each two of which are apart.
func ring() api.Site {
	return siteOf(alike(3, 1, 1), [][]int{{0, 1, 2}, {2, 0, 1}, {1, 3, 0}})
}

// far has the greatest between that there may be: a round may be no longer than that, so the two that are apart have a third one's phase between theirs.
func far() api.Site {
	s := siteOf(alike(3, 1, 1), [][]int{{0, top, 0}, {top - 1, 0, 0}, {0, 0, 0}})
	phase := func(set uint32) api.Phase { return api.Phase{Groups: set, Min: 1, Max: 1, Gap: 1} }
	s.Phases = []api.Phase{phase(1), phase(4), phase(2), phase(4)}
	return s
}

// crowded has as many groups and phases as a site may have: each two are apart, but a group and the one eight behind it.
func crowded() api.Site {
	groups := alike(api.MaxGroups, 2, 2)
	between := make([][]int, len(groups))
	for a := range between {
		between[a] = make([]int, len(groups))
		for b := range between[a] {
			if a%8 != b%8 {
				between[a][b] = 2 + (a+3*b)%4
			}
		}
	}
	return siteOf(groups, between)
}

func sites() []api.Site {
	return []api.Site{two(), slow(), near(), free(), alone(), three(), ring(), far(), crowded()}
}

// anySite is one of few or many groups, of which those of one colour are never apart.
func anySite(source *rand.Rand) api.Site {
	groups := make([]api.Group, 1+source.IntN(api.MaxGroups))
	if source.IntN(2) == 0 {
		groups = groups[:min(len(groups), 1+source.IntN(4))]
	}
	colour := make([]int, len(groups))
	for i := range groups {
		groups[i] = api.Group{Kind: uint8(1 + source.IntN(2)), Min: 1 + source.IntN(4), Yellow: 1 + source.IntN(3)}
		colour[i] = source.IntN(4)
	}
	between := make([][]int, len(groups))
	for a := range between {
		between[a] = make([]int, len(groups))
	}
	for a := range groups {
		for b := range a {
			if colour[a] != colour[b] && source.IntN(4) > 0 {
				between[a][b] = groups[a].Yellow + source.IntN(5)
				between[b][a] = groups[b].Yellow + source.IntN(5)
			}
		}
	}
	return siteOf(groups, between)
}
