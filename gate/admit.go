package gate

import (
	"slices"

	"stopline/api"
	"stopline/lamp"
)

// letThrough is what is let through behind a standing that goes on, with as many asked as there are groups.
func letThrough(s *api.Site, now api.Safe, asks []uint8) []uint8 {
	if allAre(asks, api.Flash) {
		return allOf(api.Flash, len(asks))
	}
	lights := allOf(api.Red, len(asks))
	if now.Flashed || now.Start > 0 {
		return lights
	}
	// A red group whose turn has not come yet is red in lights, so those ahead of it need not know of it. An Ended beyond its bounds is held against Between as it is: that is from 1 to MaxTicks, where stopping it first would tell the same.
	bars := func(that, it int) bool {
		return has(s.Apart[it], that) && (lights[that] != api.Red || now.Groups[that].Ended < s.Between[that][it])
	}
	open := func(it int) bool {
		for that := range lights {
			if bars(that, it) {
				return false
			}
		}
		return true
	}
	for i, seen := range now.Groups {
		if seen.Aspect != api.Red {
			lights[i] = lamp.Want(s.Groups[i], seen, asks[i])
		}
	}
	for i, seen := range now.Groups {
		if seen.Aspect == api.Red && asks[i] == api.Green && open(i) {
			lights[i] = api.Green
		}
	}
	return lights
}

func has(set uint32, i int) bool { return set>>i&1 == 1 }

func allOf(aspect uint8, many int) []uint8 {
	list := make([]uint8, many)
	for i := range list {
		list[i] = aspect
	}
	return list
}

func allAre(aspects []uint8, aspect uint8) bool {
	return !slices.ContainsFunc(aspects, func(a uint8) bool { return a != aspect })
}
