package eye

import (
	"math"
	"math/rand/v2"
	"slices"
	"strconv"
	"strings"

	"stopline/api"
	"stopline/site"
)

const (
	top     = api.MaxTicks
	allSet  = uint64(math.MaxUint64)
	highest = uint64(1) << 63
)

// What the chapter says, word by word, and by other means than the package.

func slowMayBe(x api.Looked) bool {
	if x.Same < 0 || x.Same > 1048576 || x.Well < 0 || x.Well > 1048576 {
		return false
	}
	if !x.Bad && x.Well != 0 {
		return false
	}
	return true
}

func slowIll(eye api.Eye, x api.Looked) bool {
	bound := eye.Off
	if x.Up {
		bound = eye.On
	}
	return !(x.Same < bound) || strings.Count(strconv.FormatUint(x.Turns, 2), "1") > eye.Turns
}

// slowLater is what the words tell of a detector that may be.
func slowLater(s api.Site, i int, x api.Looked, up bool) api.Looked {
	bits := strconv.FormatUint(x.Turns, 2)
	if len(bits) == 64 {
		bits = bits[1:]
	}
	if x.Up != up {
		x.Same = 1
		bits += "1"
	} else {
		if x.Same != 1048576 {
			x.Same++
		}
		bits += "0"
	}
	x.Up = up
	x.Turns, _ = strconv.ParseUint(bits, 2, 64)
	if slowIll(s.Eyes[i], x) {
		x.Bad = true
		x.Well = 0
		return x
	}
	if x.Bad {
		x.Well++
		if x.Well >= s.Heal {
			x.Bad = false
			x.Well = 0
		}
	}
	return x
}

func slowNext(s api.Site, i int, x api.Looked, up bool) (api.Looked, api.Errno) {
	if site.Check(s) != api.OK {
		return api.Looked{}, api.ErrSite
	}
	if i < 0 || i >= len(s.Eyes) {
		return api.Looked{}, api.ErrArg
	}
	if !slowMayBe(x) {
		return api.Looked{}, api.ErrBad
	}
	return slowLater(s, i, x, up), api.OK
}

func slowAllErrors(s api.Site, l []api.Looked) api.Errno {
	if site.Check(s) != api.OK {
		return api.ErrSite
	}
	if len(l) != len(s.Eyes) {
		return api.ErrMany
	}
	if slices.ContainsFunc(l, func(x api.Looked) bool { return !slowMayBe(x) }) {
		return api.ErrBad
	}
	return api.OK
}

// slowWell goes from phase to phase, and asks for its eyes.
func slowWell(s api.Site, l []api.Looked) bool {
	for phase := range s.Phases {
		eyes, believed := 0, 0
		for i, eye := range s.Eyes {
			if eye.Phase == phase {
				eyes++
				if !l[i].Bad {
					believed++
				}
			}
		}
		if eyes > 0 && believed == 0 {
			return false
		}
	}
	return true
}

// crossing is the site of chapter 5's examples, with these eyes and this Heal.
func crossing(heal int, eyes ...api.Eye) api.Site {
	g := api.Group{Kind: api.Wheels, Min: 2, Yellow: 1}
	return api.Site{
		Groups:  []api.Group{g, g},
		Apart:   []uint32{2, 1},
		Between: [][]int{{0, 2}, {2, 0}},
		Phases:  []api.Phase{{Groups: 1, Min: 2, Max: 5, Gap: 1}, {Groups: 2, Min: 2, Max: 5, Gap: 1}},
		Eyes:    eyes,
		Watch:   3, Feed: 2, Heal: heal, Low: 8, High: 20,
	}
}

// wide is a site with so many phases of a group each, with these eyes.
func wide(phases, heal int, eyes ...api.Eye) api.Site {
	s := api.Site{Eyes: eyes, Watch: 1, Feed: 1, Heal: heal, Low: phases, High: top}
	for i := range phases {
		s.Groups = append(s.Groups, api.Group{Kind: api.Feet, Min: 1, Yellow: 1})
		s.Apart = append(s.Apart, 0)
		s.Between = append(s.Between, make([]int, phases))
		s.Phases = append(s.Phases, api.Phase{Groups: 1 << i, Min: 1, Max: 1, Gap: 1})
	}
	return s
}

// eyesOf are so many eyes that are alike.
func eyesOf(many int, e api.Eye) []api.Eye { return slices.Repeat([]api.Eye{e}, many) }

// ticks reads ticks: 1 is up.
func ticks(text string) []bool {
	list := []bool{}
	for _, r := range text {
		list = append(list, r == '1')
	}
	return list
}

// told writes them again.
func told(list []bool) string {
	text := []byte{}
	for _, x := range list {
		if x {
			text = append(text, '1')
		} else {
			text = append(text, '0')
		}
	}
	return string(text)
}

// numbers are Sames and Wells at their edges.
func numbers() []int {
	return []int{math.MinInt, math.MinInt + 1, -top, -1, 0, 1, 2, top - 2, top - 1, top, top + 1, 1 << 31, 1 << 32, math.MaxInt - 1, math.MaxInt}
}

func turns() []uint64 {
	return []uint64{0, 1, 2, 3, 5, highest, highest | 1, highest | highest>>1, allSet, allSet - 1, allSet >> 1, 0x5555555555555555, 0xaaaaaaaaaaaaaaaa}
}

// looks are detectors of all kinds, those that may be and those that may not: each Same beside each Well and Turns, any bits.
func looks(sames, wells []int, turns []uint64) []api.Looked {
	var list []api.Looked
	for _, same := range sames {
		for _, well := range wells {
			for _, turn := range turns {
				for _, up := range []bool{false, true} {
					for _, bad := range []bool{false, true} {
						list = append(list, api.Looked{Up: up, Same: same, Turns: turn, Bad: bad, Well: well})
					}
				}
			}
		}
	}
	return list
}

// wrong are detectors that may not be, each for one cause alone.
func wrong() []api.Looked {
	list := []api.Looked{{Well: 1}, {Well: top}, {Up: true, Same: 3, Well: 1}, {Up: true, Same: top, Turns: allSet, Well: top - 1}}
	for _, n := range []int{math.MinInt, math.MinInt + 1, -top, -1, top + 1, 1 << 31, 1 << 32, math.MaxInt} {
		list = append(list, api.Looked{Same: n}, api.Looked{Up: true, Same: n, Bad: true}, api.Looked{Bad: true, Well: n}, api.Looked{Up: true, Same: 1, Bad: true, Well: n})
	}
	return list
}

// badSites may not be, most of them for what eye itself leans on, each with an eye at least.
func badSites() []api.Site {
	well := api.Eye{On: 3, Off: 9, Turns: 2}
	list := []api.Site{
		{}, {Eyes: []api.Eye{well}}, crossing(0, well), crossing(-1, well), crossing(top+1, well), crossing(math.MinInt, well), crossing(math.MaxInt, well),
		crossing(4, eyesOf(api.MaxEyes+1, well)...),
	}
	for _, e := range []api.Eye{
		{On: 0, Off: 9, Turns: 2}, {On: -1, Off: 9, Turns: 2}, {On: top + 1, Off: 9, Turns: 2},
		{On: 3, Off: 0, Turns: 2}, {On: 3, Off: -1, Turns: 2}, {On: 3, Off: top + 1, Turns: 2},
		{On: 3, Off: 9, Turns: 0}, {On: 3, Off: 9, Turns: -1}, {On: 3, Off: 9, Turns: 65},
		{Phase: -1, On: 3, Off: 9, Turns: 2}, {Phase: 2, On: 3, Off: 9, Turns: 2}, {Phase: math.MinInt, On: 3, Off: 9, Turns: 2}, {Phase: 32, On: 3, Off: 9, Turns: 2},
		{},
	} {
		list = append(list, crossing(4, e), crossing(4, well, e), crossing(4, e, well))
	}
	return list
}

// every is all lists of up to so many ticks.
func every(longest int) [][]bool {
	list := [][]bool{{}}
	for at := 0; at < len(list); at++ {
		if len(list[at]) < longest {
			list = append(list, append(slices.Clip(list[at]), false), append(slices.Clip(list[at]), true))
		}
	}
	return list
}

// spells is ticks in spells of the same, each of up to so many.
func spells(source *rand.Rand, many, longest int) []bool {
	list := make([]bool, 0, many)
	up := source.IntN(2) == 0
	for len(list) < many {
		long := min(1+source.IntN(longest), many-len(list))
		list = append(list, slices.Repeat([]bool{up}, long)...)
		up = !up
	}
	return list
}
