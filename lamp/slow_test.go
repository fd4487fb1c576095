package lamp

import (
	"math"
	"math/rand/v2"

	"stopline/api"
)

const top = api.MaxTicks

// What the chapter says, word by word, and by other means than the package.

func slowCount(n int) int {
	if n < 0 {
		return 0
	}
	if n > top {
		return top
	}
	return n
}

func slowOneMore(n int) int {
	if slowCount(n) == top {
		return top
	}
	return slowCount(n) + 1
}

// behind is what follows behind each aspect of a group that goes; the others have nothing here.
func behind() map[uint8]uint8 {
	return map[uint8]uint8{api.Red: api.Green, api.Green: api.Yellow, api.Yellow: api.Red}
}

func slowFollows(a, b uint8) bool {
	c, goes := behind()[a]
	return goes && c == b
}

func slowNext(s api.Seen, aspect uint8) api.Seen {
	since, ended := 1, slowOneMore(s.Ended)
	if aspect == s.Aspect {
		since = slowOneMore(s.Since)
	}
	if aspect == api.Green {
		ended = 0
	}
	return api.Seen{Aspect: aspect, Since: since, Ended: ended}
}

// slowFaults are all the faults that hold, each asked apart from the others, in the order of the chapter.
func slowFaults(g api.Group, s api.Seen, aspect uint8) []uint8 {
	var list []uint8
	_, stoodGoes := behind()[s.Aspect]
	_, shownGoes := behind()[aspect]
	since := slowCount(s.Since)
	if !(stoodGoes && shownGoes && (aspect == s.Aspect || slowFollows(s.Aspect, aspect))) {
		list = append(list, api.FaultAspect)
	}
	if s.Aspect == api.Green && aspect == api.Yellow && since < g.Min {
		list = append(list, api.FaultMin)
	}
	tooLong := aspect == api.Yellow && !(since < g.Yellow)
	tooShort := aspect == api.Red && since < g.Yellow
	if s.Aspect == api.Yellow && (tooLong || tooShort) {
		list = append(list, api.FaultYellow)
	}
	return list
}

func slowMay(g api.Group, s api.Seen, aspect uint8) uint8 {
	for _, f := range slowFaults(g, s, aspect) {
		return f
	}
	return api.FaultNone
}

func slowWant(g api.Group, s api.Seen, ask uint8) uint8 {
	since := slowCount(s.Since)
	if s.Aspect == api.Red && ask == api.Green {
		return api.Green
	}
	if s.Aspect == api.Green && (ask == api.Green || since < g.Min) {
		return api.Green
	}
	if s.Aspect == api.Green {
		return api.Yellow
	}
	if s.Aspect == api.Yellow && since < g.Yellow {
		return api.Yellow
	}
	return api.Red
}

// someAspects are all five, and some that are none.
func someAspects() []uint8 {
	return []uint8{api.Dark, api.Red, api.Green, api.Yellow, api.Flash, 5, 6, 7, 127, 128, 129, 130, 254, 255}
}

func allAspects() []uint8 {
	list := make([]uint8, 256)
	for i := range list {
		list[i] = uint8(i)
	}
	return list
}

// counts are the numbers at which a count turns, the ends of an int among them.
func counts() []int {
	return []int{math.MinInt, math.MinInt + 1, -top - 1, -top, -2, -1, 0, 1, 2, 3, top - 2, top - 1, top, top + 1, top + 2, 1 << 31, 1 << 32, math.MaxInt - 1, math.MaxInt}
}

// around are the counts, and one below each bound, at it, and one above it.
func around(bounds ...int) []int {
	list := counts()
	for _, n := range bounds {
		if n > math.MinInt && n < math.MaxInt {
			list = append(list, n-1, n, n+1)
		}
	}
	return list
}

// bounds are what a Min or a Yellow may be handed in as, though no site has all of them.
func bounds() []int {
	return []int{math.MinInt, -5, -1, 0, 1, 2, 3, 7, top - 1, top, top + 1, math.MaxInt}
}

func groups() []api.Group {
	var list []api.Group
	for i, low := range bounds() {
		for k, yellow := range bounds() {
			list = append(list, api.Group{Kind: uint8((i + k) % 4), Min: low, Yellow: yellow})
		}
	}
	return list
}

// standings of a group: each aspect with each count at which it could turn.
func standings(g api.Group, visit func(s api.Seen)) {
	for _, a := range someAspects() {
		for i, n := range around(g.Min, g.Yellow) {
			ended := counts()[i%len(counts())]
			visit(api.Seen{Aspect: a, Since: n, Ended: ended})
		}
	}
}

// spread is the same in each run: groups and standings of numbers of all lengths and both signs, and aspects that are more often some than none.
func spread(many int, visit func(g api.Group, s api.Seen, aspect uint8)) {
	source := rand.New(rand.NewPCG(7, 7))
	number := func() int { return int(source.Uint64()) >> source.IntN(64) }
	aspect := func() uint8 {
		if source.IntN(8) == 0 {
			return uint8(source.IntN(256))
		}
		return uint8(source.IntN(5))
	}
	for range many {
		g := api.Group{Kind: uint8(source.IntN(256)), Min: number(), Yellow: number()}
		visit(g, api.Seen{Aspect: aspect(), Since: number(), Ended: number()}, aspect())
	}
}
