package gap

import (
	"math"
	"math/rand/v2"
	"slices"

	"stopline/api"
)

const (
	top     = api.MaxTicks
	most    = api.MaxCounter
	allSet  = uint64(math.MaxUint64)
	highest = uint64(1) << 63
)

// What the chapter says, word by word, and by other means than the package.

func slowMayBe(g api.Gapped) bool {
	if g.Held < 0 || g.Held > 1048576 || g.Open < 0 || g.Open > 1048576 {
		return false
	}
	if g.Came < 0 || g.Came > 1073741824 {
		return false
	}
	if g.Up {
		return g.Open == 0 && g.Last%2 == 1
	}
	return g.Held == 0 && g.Last%2 == 0
}

func slowNext(g api.Gapped, up bool) (api.Gapped, api.Errno) {
	if !slowMayBe(g) {
		return api.Gapped{}, api.ErrBad
	}
	next := g
	next.Up = up
	if up {
		if g.Held != 1048576 {
			next.Held = g.Held + 1
		}
		next.Open = 0
		if g.Up == false && g.Came != 1073741824 {
			next.Came = g.Came + 1
		}
	} else {
		next.Held = 0
		if g.Open != 1048576 {
			next.Open = g.Open + 1
		}
	}
	next.Last = packed(append([]bool{up}, newest(g.Last)[:63]...))
	return next, api.OK
}

func slowShare(g api.Gapped, window int) (int64, api.Errno) {
	if !slowMayBe(g) {
		return 0, api.ErrBad
	}
	if window < 1 || window > 64 {
		return 0, api.ErrArg
	}
	many := int64(0)
	for _, x := range newest(g.Last)[:window] {
		if x {
			many++
		}
	}
	return many * 65536 / int64(window), api.OK
}

func slowPast(g api.Gapped, gap int) (bool, api.Errno) {
	if !slowMayBe(g) {
		return false, api.ErrBad
	}
	if gap < 0 || gap > 1048576 {
		return false, api.ErrArg
	}
	if g.Up {
		return false, api.OK
	}
	return !(g.Open < gap), api.OK
}

// newest are the ticks of a Last, the newest one first.
func newest(last uint64) []bool {
	list := make([]bool, 0, 64)
	for range 64 {
		list = append(list, last%2 == 1)
		last /= 2
	}
	return list
}

// packed is a Last again.
func packed(list []bool) uint64 {
	last := uint64(0)
	for _, x := range slices.Backward(list) {
		last *= 2
		if x {
			last++
		}
	}
	return last
}

// ticks reads ticks: 1 is up.
func ticks(text string) []bool {
	list := []bool{}
	for _, r := range text {
		list = append(list, r == '1')
	}
	return list
}

// told writes them again.
func told(list []bool) string {
	text := []byte{}
	for _, x := range list {
		if x {
			text = append(text, '1')
		} else {
			text = append(text, '0')
		}
	}
	return string(text)
}

// times are Helds and Opens at their edges.
func times() []int {
	return []int{math.MinInt, math.MinInt + 1, -top, -1, 0, 1, 2, top - 2, top - 1, top, top + 1, 1 << 31, 1 << 32, math.MaxInt - 1, math.MaxInt}
}

func counts() []int {
	return []int{math.MinInt, math.MinInt + 1, -most, -1, 0, 1, 2, most - 2, most - 1, most, most + 1, 1 << 31, 1 << 32, math.MaxInt - 1, math.MaxInt}
}

func lasts() []uint64 {
	return []uint64{0, 1, 2, 3, 13, highest, highest | 1, allSet, allSet - 1, allSet >> 1, allSet>>1 - 1, 0x5555555555555555, 0xaaaaaaaaaaaaaaaa, 1<<32 - 1, 1 << 32}
}

func badWindows() []int {
	return []int{math.MinInt, math.MinInt + 1, -65, -64, -63, -2, -1, 0, 65, 66, 127, 128, 129, 1 << 31, 1<<32 + 1, math.MaxInt - 1, math.MaxInt}
}

func windows() []int { return append(badWindows(), 1, 2, 3, 4, 5, 7, 31, 32, 33, 62, 63, 64) }

func badGaps() []int {
	return []int{math.MinInt, math.MinInt + 1, -top, -2, -1, top + 1, top + 2, 1 << 31, 1 << 32, math.MaxInt - 1, math.MaxInt}
}

func gaps(open int) []int {
	list := append(badGaps(), 0, 1, 2, top-1, top)
	if open > math.MinInt && open < math.MaxInt {
		list = append(list, open-1, open, open+1)
	}
	return list
}

// edges are gaps of all kinds, those that may be and those that may not: each Held beside each Open, Came, Last, either way up.
func edges() []api.Gapped {
	var list []api.Gapped
	for _, held := range times() {
		for _, open := range times() {
			for _, came := range counts() {
				for _, last := range lasts() {
					for _, up := range []bool{false, true} {
						list = append(list, api.Gapped{Up: up, Held: held, Open: open, Came: came, Last: last})
					}
				}
			}
		}
	}
	return list
}

// well are those of edges that may be.
func well() []api.Gapped {
	return slices.DeleteFunc(edges(), func(g api.Gapped) bool { return !slowMayBe(g) })
}

// wrong are gaps that may not be, each for one cause alone.
func wrong() []api.Gapped {
	list := []api.Gapped{
		{Held: 1}, {Held: top}, {Up: true, Last: 1, Open: 1}, {Up: true, Last: allSet, Held: 1, Open: top},
		{Up: true}, {Up: true, Held: 1, Came: 1}, {Up: true, Last: 2}, {Up: true, Last: highest}, {Up: true, Last: allSet - 1},
		{Last: 1}, {Last: 3}, {Last: highest | 1}, {Last: allSet}, {Open: 1, Last: 13},
	}
	for _, n := range []int{math.MinInt, math.MinInt + 1, -top, -1, top + 1, 1 << 31, 1 << 32, math.MaxInt} {
		list = append(list, api.Gapped{Open: n}, api.Gapped{Up: true, Held: n, Last: 1})
	}
	for _, n := range []int{math.MinInt, math.MinInt + 1, -most, -1, most + 1, 1 << 31, 1 << 32, math.MaxInt} {
		list = append(list, api.Gapped{Came: n}, api.Gapped{Up: true, Came: n, Last: 1})
	}
	return list
}

// every is all lists of up to so many ticks.
func every(longest int) [][]bool {
	list := [][]bool{{}}
	for at := 0; at < len(list); at++ {
		if len(list[at]) < longest {
			list = append(list, append(slices.Clip(list[at]), false), append(slices.Clip(list[at]), true))
		}
	}
	return list
}

// spells is ticks in spells of the same, each of up to so many.
func spells(source *rand.Rand, many, longest int) []bool {
	list := make([]bool, 0, many)
	up := source.IntN(2) == 0
	for len(list) < many {
		long := min(1+source.IntN(longest), many-len(list))
		list = append(list, slices.Repeat([]bool{up}, long)...)
		up = !up
	}
	return list
}
