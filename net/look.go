package net

import (
	"stopline/api"
	"stopline/site"
)

// mostSteps is how many times Step may divide what lies between Low and High.
const mostSteps = 64

// mark is what a region may have once alone: which sort of mark it is, and its numbers.
type mark [3]int

const (
	ofId    = iota // the Id of a site
	ofPlace        // a site's place in a sub's Sites
	ofPair         // A and B of a wed
)

// marks are those that are there already, each with the place of the site, sub or wed that has it.
type marks map[mark]int

// isFirst takes a mark in, unless it is there already.
func (there marks) isFirst(m mark, place int) bool {
	if _, has := there[m]; has {
		return false
	}
	there[m] = place
	return true
}

// look goes through a region: its marks are all there, if it may be.
func look(n api.Net) (marks, api.Errno) {
	there := marks{}
	if !countsHold(n) || !sitesHold(n, there) || !subsHold(n, there) || !cyclesHold(n) || !wedsHold(n, there) {
		return nil, api.ErrNet
	}
	return there, api.OK
}

func within(n, low, high int) bool { return low <= n && n <= high }

// isTime tells whether n is a time that is not nought.
func isTime(n int) bool { return within(n, 1, api.MaxTicks) }

// countsHold is asked first, so that nothing else goes through a list that is too long.
func countsHold(n api.Net) bool {
	return within(len(n.Sites), 1, api.MaxSites) && within(len(n.Subs), 1, api.MaxSubs) && len(n.Weds) <= api.MaxWeds
}

func sitesHold(n api.Net, there marks) bool {
	for place, s := range n.Sites {
		if site.Check(s) != api.OK || !there.isFirst(mark{ofId, s.Id}, place) {
			return false
		}
	}
	return true
}

func subsHold(n api.Net, there marks) bool {
	for place, sub := range n.Subs {
		if !takeSites(n, there, place) {
			return false
		}
		// A sub without sites has no Critical that would be one of them.
		if in, has := there[mark{ofPlace, sub.Critical}]; !has || in != place {
			return false
		}
	}
	return allPlaced(n, there)
}

// takeSites ends at the first site that is there already: so it goes through no list that is too long.
func takeSites(n api.Net, there marks, place int) bool {
	for _, s := range n.Subs[place].Sites {
		if !within(s, 0, len(n.Sites)-1) || !there.isFirst(mark{ofPlace, s}, place) {
			return false
		}
	}
	return true
}

func allPlaced(n api.Net, there marks) bool {
	for place := range n.Sites {
		if _, has := there[mark{ofPlace, place}]; !has {
			return false
		}
	}
	return true
}

func cyclesHold(n api.Net) bool {
	if !isTime(n.Low) || !within(n.High, n.Low, api.MaxTicks) || !isTime(n.Step) {
		return false
	}
	if (n.High-n.Low)%n.Step != 0 || steps(n) > mostSteps {
		return false
	}
	for _, s := range n.Sites {
		if s.Low > n.Low || s.High < n.High {
			return false
		}
	}
	return true
}

// steps is how many times Step divides what lies between Low and High.
func steps(n api.Net) int { return (n.High - n.Low) / n.Step }

func wedsHold(n api.Net, there marks) bool {
	for place, w := range n.Weds {
		if !within(w.A, 0, len(n.Subs)-1) || !within(w.B, w.A+1, len(n.Subs)-1) || !there.isFirst(mark{ofPair, w.A, w.B}, place) {
			return false
		}
		if !isTime(w.Votes) || !offsetsHold(n, w.Offsets) {
			return false
		}
	}
	return true
}

func offsetsHold(n api.Net, offsets []int) bool {
	if !within(len(offsets), 1, api.MaxPlans) {
		return false
	}
	for _, offset := range offsets {
		if !within(offset, 0, n.Low-1) {
			return false
		}
	}
	return true
}
