package back

import (
	"iter"

	"stopline/api"
)

// checkBoth is the error of what is wanted of so many groups, or of what is shown, which may be empty, too.
func checkBoth(groups int, want, shown []uint8) api.Errno {
	if e := checkLights(groups, want); e != api.OK || len(shown) == 0 {
		return e
	}
	return checkLights(groups, shown)
}

// checkLights is the error of a list that is not lights of so many groups.
func checkLights(groups int, lights []uint8) api.Errno {
	if len(lights) != groups {
		return api.ErrMany
	}
	for _, aspect := range lights {
		if aspect > api.Flash {
			return api.ErrArg
		}
	}
	return api.OK
}

// differ tells whether one group's aspect is not the one that is wanted. Of lamps that show nothing there is no pair, so these are right.
func differ(want, shown []uint8) bool {
groups:
	for wanted, seen := range both(want, shown) {
		if wanted == seen {
			continue groups
		}
		return true
	}
	return false
}

// both goes through two lists at once, as far as the shorter one goes.
func both(a, b []uint8) iter.Seq2[uint8, uint8] {
	return func(yield func(uint8, uint8) bool) {
		for i := range min(len(a), len(b)) {
			if !yield(a[i], b[i]) {
				return
			}
		}
	}
}
