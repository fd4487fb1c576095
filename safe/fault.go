package safe

import (
	"slices"

	"stopline/api"
	"stopline/lamp"
)

// faultOf is the fault of a tick's lights behind a standing that may be.
func faultOf(s *api.Site, now api.Safe, lights []uint8) uint8 {
	switch {
	case len(lights) != len(s.Groups):
		return api.FaultCount
	case allAre(lights, api.Flash):
		return api.FaultNone
	case slices.Contains(lights, api.Flash):
		return api.FaultFlash
	case (now.Flashed || now.Start > 0) && !allAre(lights, api.Red):
		return api.FaultStart
	}
	if fault := faultOfOne(s, now, lights); fault != api.FaultNone {
		return fault
	}
	switch {
	case meet(s, lights):
		return api.FaultMeet
	case tooSoon(s, now, lights):
		return api.FaultBetween
	}
	return api.FaultNone
}

// faultOfOne is the first fault that a group has by itself. Flash cut everything short: behind it none has one.
func faultOfOne(s *api.Site, now api.Safe, lights []uint8) uint8 {
	if now.Flashed {
		return api.FaultNone
	}
	for i, g := range s.Groups {
		if fault := lamp.May(g, now.Groups[i], lights[i]); fault != api.FaultNone {
			return fault
		}
	}
	return api.FaultNone
}

// meet tells whether of two that are apart both are other than red.
func meet(s *api.Site, aspects []uint8) bool {
pairs:
	for a, set := range s.Apart {
		for b := range a {
			switch {
			case aspects[a] == api.Red:
				continue pairs
			case aspects[b] != api.Red && has(set, b):
				return true
			}
		}
	}
	return false
}

// tooSoon tells whether a green begins too few ticks behind one that is apart. An Ended beyond its bounds is held against Between as it is: that is from 1 to MaxTicks, where stopping it first would tell the same.
func tooSoon(s *api.Site, now api.Safe, lights []uint8) bool {
pairs:
	for b, aspect := range lights {
		for a, seen := range now.Groups {
			switch {
			case aspect != api.Green || now.Groups[b].Aspect == api.Green:
				continue pairs
			case has(s.Apart[a], b) && seen.Ended < s.Between[a][b]:
				return true
			}
		}
	}
	return false
}

func has(set uint32, i int) bool { return set>>i&1 == 1 }

func allAre(aspects []uint8, aspect uint8) bool {
	return !slices.ContainsFunc(aspects, func(a uint8) bool { return a != aspect })
}
