package site

import (
	"iter"

	"stopline/api"
	"stopline/ring"
)

const (
	maxId    = 65535
	maxTurns = 64 // an eye is looked at through a window of so many ticks
)

// part is what a condition is asked of, one number after another.
type part uint8

const (
	ofSite part = iota // once
	ofGroups
	ofPhases
	ofEyes
	ofPlans
)

// condition is what each such part of a site must be.
type condition struct {
	of    part
	holds func(s *api.Site, i int) bool
}

// conditions are in an order in which each may lean on those ahead of it: what it looks up is there, and is within its bounds.
func conditions() []condition {
	return []condition{
		{ofSite, countsHold},
		{ofSite, ownHold},
		{ofGroups, groupHolds},
		{ofGroups, apartHolds},
		{ofGroups, betweenHolds},
		{ofPhases, phaseHolds},
		{ofSite, allGroupsServed},
		{ofEyes, eyeHolds},
		{ofSite, cyclesHold},
		{ofPlans, planFits},
	}
}

// Check tells whether a site may be.
func Check(s api.Site) api.Errno {
	many := [...]int{ofSite: 1, ofGroups: len(s.Groups), ofPhases: len(s.Phases), ofEyes: len(s.Eyes), ofPlans: len(s.Plans)}
	e := api.OK
asked:
	for _, c := range conditions() {
		for i := range many[c.of] {
			if !c.holds(&s, i) {
				e = api.ErrSite
				break asked
			}
		}
	}
	return e
}

func within(n, low, high int) bool { return low <= n && n <= high }

// isTime tells whether n is a time that is not nought.
func isTime(n int) bool { return within(n, 1, api.MaxTicks) }

// allGroups is the set of all numbers of groups.
func allGroups(s *api.Site) uint32 { return 1<<len(s.Groups) - 1 }

// members are the numbers of a set, rising.
func members(set uint32) iter.Seq[int] {
	return func(yield func(int) bool) {
		for rest := set; rest != 0; {
			i := ring.Least(rest)
			rest = ring.Without(rest, i)
			if !yield(i) {
				return
			}
		}
	}
}

// countsHold is asked first, so that nothing else goes through a list that is too long.
func countsHold(s *api.Site, _ int) bool {
	groups := len(s.Groups)
	return within(groups, 1, api.MaxGroups) && len(s.Apart) == groups && len(s.Between) == groups &&
		within(len(s.Phases), 1, api.MaxPhases) && len(s.Eyes) <= api.MaxEyes && len(s.Plans) <= api.MaxPlans
}

func ownHold(s *api.Site, _ int) bool {
	return within(s.Id, 0, maxId) && isTime(s.Watch) && isTime(s.Feed) && isTime(s.Heal)
}

func groupHolds(s *api.Site, i int) bool {
	g := s.Groups[i]
	return (g.Kind == api.Wheels || g.Kind == api.Feet) && isTime(g.Min) && isTime(g.Yellow)
}

func apartHolds(s *api.Site, a int) bool {
	if s.Apart[a]&^allGroups(s) != 0 || ring.Has(s.Apart[a], a) {
		return false
	}
	for b, set := range s.Apart {
		if ring.Has(s.Apart[a], b) != ring.Has(set, a) {
			return false
		}
	}
	return true
}

func betweenHolds(s *api.Site, a int) bool {
	if len(s.Between[a]) != len(s.Groups) {
		return false
	}
	for b, n := range s.Between[a] {
		low, high := 0, 0
		if ring.Has(s.Apart[a], b) {
			low, high = s.Groups[a].Yellow, api.MaxTicks
		}
		if !within(n, low, high) {
			return false
		}
	}
	return true
}

func phaseHolds(s *api.Site, i int) bool {
	p := s.Phases[i]
	if p.Groups == 0 || p.Groups&^allGroups(s) != 0 {
		return false
	}
	least := 0
	for a := range members(p.Groups) {
		if s.Apart[a]&p.Groups != 0 {
			return false
		}
		least = max(least, s.Groups[a].Min)
	}
	return within(p.Min, least, api.MaxTicks) && within(p.Max, p.Min, api.MaxTicks) && isTime(p.Gap)
}

func allGroupsServed(s *api.Site, _ int) bool {
	served := uint32(0)
	for _, p := range s.Phases {
		served |= p.Groups
	}
	return served == allGroups(s)
}

func eyeHolds(s *api.Site, i int) bool {
	y := s.Eyes[i]
	return within(y.Phase, 0, len(s.Phases)-1) && isTime(y.On) && isTime(y.Off) && within(y.Turns, 1, maxTurns)
}

func cyclesHold(s *api.Site, _ int) bool {
	round := 0
	for i := range s.Phases {
		round += leastPart(s, i)
	}
	return within(s.Low, round, api.MaxTicks) && within(s.High, s.Low, api.MaxTicks)
}

func planFits(s *api.Site, i int) bool { return fits(s, s.Plans[i]) }

// lies is what lies from one phase to another one.
func lies(s *api.Site, from, to int) int {
	greatest := 0
	for a := range members(s.Phases[from].Groups) {
		for b := range members(s.Apart[a] & s.Phases[to].Groups) {
			greatest = max(greatest, s.Between[a][b])
		}
	}
	return greatest
}

// leastPart is phase i's Min, and what lies from it to the next one. A phase that is alone is its own next one: from that to itself lies nothing.
func leastPart(s *api.Site, i int) int {
	return s.Phases[i].Min + lies(s, i, (i+1)%len(s.Phases))
}

// fits tells whether p may be one of s. Splits are taken off the Cycle, as a sum of any numbers might wrap.
func fits(s *api.Site, p api.Plan) bool {
	if !within(p.Cycle, s.Low, s.High) || !within(p.Offset, 0, p.Cycle-1) || len(p.Splits) != len(s.Phases) {
		return false
	}
	left := p.Cycle
	for i, split := range p.Splits {
		if !within(split, leastPart(s, i), left) {
			return false
		}
		left -= split
	}
	return left == 0
}

// mayBe tells whether p may be at all.
func mayBe(p api.Plan) bool {
	if !isTime(p.Cycle) || !within(p.Offset, 0, p.Cycle-1) || !within(len(p.Splits), 1, api.MaxPhases) {
		return false
	}
	for _, split := range p.Splits {
		if !within(split, 0, api.MaxTicks) {
			return false
		}
	}
	return true
}
