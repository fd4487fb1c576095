package pulse

import (
	"math"
	"math/rand/v2"
	"slices"

	"stopline/api"
)

const top = api.MaxTicks

// What the chapter says, word by word, and by other means than the package.

func slowNext(p api.Pulse, raw bool, hold int) (api.Pulse, api.Errno) {
	if p.Since < 0 || p.Since > 1048576 {
		return api.Pulse{}, api.ErrBad
	}
	if hold < 1 || hold > 1048576 {
		return api.Pulse{}, api.ErrArg
	}
	since := 1
	switch {
	case p.Raw == raw && p.Since == 1048576:
		since = 1048576
	case p.Raw == raw:
		since = p.Since + 1
	}
	up := p.Up
	if !(since < hold) {
		up = raw
	}
	return api.Pulse{Up: up, Raw: raw, Since: since}, api.OK
}

// slowRun goes by slowNext, tick by tick.
func slowRun(p api.Pulse, raw []bool, hold int) (api.Pulse, []bool, api.Errno) {
	if p.Since < 0 || p.Since > 1048576 {
		return api.Pulse{}, nil, api.ErrBad
	}
	if len(raw) >= 4097 {
		return api.Pulse{}, nil, api.ErrMany
	}
	if hold < 1 || hold > 1048576 {
		return api.Pulse{}, nil, api.ErrArg
	}
	var said []bool
	for _, x := range raw {
		p, _ = slowNext(p, x, hold)
		said = append(said, p.Up)
	}
	return p, said, api.OK
}

// sameFor is for how many ticks in a row the detector has said the same, up to tick at of raw: those of the pulse that went ahead count, if they said that too.
func sameFor(p api.Pulse, raw []bool, at int) int {
	many := 0
	for i := at; i >= 0; i-- {
		if raw[i] != raw[at] {
			return many
		}
		many++
	}
	if p.Raw == raw[at] {
		many += p.Since
	}
	return many
}

// saidBy looks back alone: behind tick at it says what lasted for hold ticks last, or what it said ahead of all of them.
func saidBy(p api.Pulse, raw []bool, hold, at int) bool {
	for i := at; i >= 0; i-- {
		if sameFor(p, raw, i) >= hold {
			return raw[i]
		}
	}
	return p.Up
}

// bits reads ticks: 1 is yes.
func bits(text string) []bool {
	list := []bool{}
	for _, r := range text {
		list = append(list, r == '1')
	}
	return list
}

func told(list []bool) string {
	text := []byte{}
	for _, x := range list {
		if x {
			text = append(text, '1')
		} else {
			text = append(text, '0')
		}
	}
	return string(text)
}

// pulses are all that have one of these Sinces.
func pulses(sinces ...int) []api.Pulse {
	var list []api.Pulse
	for _, since := range sinces {
		for i := range 4 {
			list = append(list, api.Pulse{Up: i&1 != 0, Raw: i&2 != 0, Since: since})
		}
	}
	return list
}

// sinces are those at the bounds, and at a hold.
func sinces(hold int) []int {
	list := []int{math.MinInt, math.MinInt + 1, -top, -1, 0, 1, 2, top - 2, top - 1, top, top + 1, 1 << 31, 1 << 32, math.MaxInt - 1, math.MaxInt}
	if hold > 1 && hold < top {
		list = append(list, hold-2, hold-1, hold, hold+1)
	}
	return list
}

func badSinces() []int {
	return []int{math.MinInt, math.MinInt + 1, -top - 1, -top, -2, -1, top + 1, top + 2, 1 << 31, 1 << 32, math.MaxInt - 1, math.MaxInt}
}

func goodHolds() []int { return []int{1, 2, 3, 7, 64, 4095, 4096, 4097, top - 1, top} }

func badHolds() []int {
	return []int{math.MinInt, math.MinInt + 1, -top, -2, -1, 0, top + 1, top + 2, 1 << 31, 1 << 32, math.MaxInt - 1, math.MaxInt}
}

// every is all lists of up to so many ticks.
func every(most int) [][]bool {
	list := [][]bool{{}}
	for at := 0; at < len(list); at++ {
		if len(list[at]) < most {
			list = append(list, append(slices.Clip(list[at]), false), append(slices.Clip(list[at]), true))
		}
	}
	return list
}

// trembling is ticks in spells of the same, each of up to so many.
func trembling(source *rand.Rand, ticks, longest int) []bool {
	list := make([]bool, 0, ticks)
	says := source.IntN(2) == 0
	for len(list) < ticks {
		many := min(1+source.IntN(longest), ticks-len(list))
		list = append(list, slices.Repeat([]bool{says}, many)...)
		says = !says
	}
	return list
}
