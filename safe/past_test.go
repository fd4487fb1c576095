package safe

import (
	"math/rand/v2"
	"testing"

	"stopline/api"
	"stopline/lamp"
)

// past tells a trace's faults by looking back at what was shown: it keeps no standing, and asks lamp nothing.
type past struct {
	s     api.Site
	trace [][]uint8
}

// shown is what a group showed in a tick; ahead of the first one it was red.
func (p past) shown(tick, i int) uint8 {
	if tick < 0 {
		return api.Red
	}
	return p.trace[tick][i]
}

func (p past) last() int { return len(p.trace) - 1 }

// since is for how many ticks a group has shown what it shows; one of them may be the tick ahead of the first.
func (p past) since(i int) int {
	n := 0
	for tick := p.last(); tick >= -1 && p.shown(tick, i) == p.shown(p.last(), i); tick-- {
		n++
	}
	return n
}

// ended is how many ticks ago a group was green.
func (p past) ended(i int) int {
	for tick := p.last(); tick >= 0; tick-- {
		if p.shown(tick, i) == api.Green {
			return p.last() - tick
		}
	}
	return top
}

// flashed is the last tick in which all flashed; the one ahead of the first holds all red as long as flash does.
func (p past) flashed() int {
	for tick := p.last(); tick >= 0; tick-- {
		if p.shown(tick, 0) == api.Flash {
			return tick
		}
	}
	return -1
}

func (p past) standing() api.Safe {
	now := api.Safe{Start: max(slowGreatest(p.s)-(p.last()-p.flashed()), 0), Flashed: p.shown(p.last(), 0) == api.Flash}
	for i := range p.s.Groups {
		now.Groups = append(now.Groups, api.Seen{Aspect: p.shown(p.last(), i), Since: p.since(i), Ended: p.ended(i)})
	}
	return now
}

// ofOne is the fault of a group that shows an aspect next, behind a tick without flash.
func (p past) ofOne(i int, aspect uint8) uint8 {
	g, was := p.s.Groups[i], p.shown(p.last(), i)
	switch [2]uint8{was, aspect} {
	case [2]uint8{api.Red, api.Red}, [2]uint8{api.Red, api.Green}, [2]uint8{api.Green, api.Green}:
		return api.FaultNone
	case [2]uint8{api.Green, api.Yellow}:
		if p.since(i) < g.Min {
			return api.FaultMin
		}
		return api.FaultNone
	case [2]uint8{api.Yellow, api.Yellow}, [2]uint8{api.Yellow, api.Red}:
		if (p.since(i) == g.Yellow) != (aspect == api.Red) {
			return api.FaultYellow
		}
		return api.FaultNone
	}
	return api.FaultAspect
}

func (p past) fault(lights []uint8) uint8 {
	greatest, behind := slowGreatest(p.s), p.last()-p.flashed()
	flashed := p.shown(p.last(), 0) == api.Flash
	switch flashes := many(lights, api.Flash); {
	case len(lights) != len(p.s.Groups):
		return api.FaultCount
	case flashes == len(lights):
		return api.FaultNone
	case flashes > 0:
		return api.FaultFlash
	case (behind < greatest || flashed) && many(lights, api.Red) < len(lights):
		return api.FaultStart
	}
	for i, aspect := range lights {
		if fault := p.ofOne(i, aspect); fault != api.FaultNone && !flashed {
			return fault
		}
	}
	pairs := apartPairs(p.s)
	for _, q := range pairs {
		if lights[q[0]] != api.Red && lights[q[1]] != api.Red {
			return api.FaultMeet
		}
	}
	for _, q := range pairs {
		if lights[q[1]] == api.Green && p.shown(p.last(), q[1]) != api.Green && p.ended(q[0]) < p.s.Between[q[0]][q[1]] {
			return api.FaultBetween
		}
	}
	return api.FaultNone
}

// holdSafe holds P8.5 against a trace that Check lets pass: what it says is asked of the trace itself.
func holdSafe(t *testing.T, s api.Site, trace [][]uint8) {
	t.Helper()
	for _, q := range apartPairs(s) {
		ended := -1 // the last tick of the first one's green; -1, if flash came since, or there was none
		for tick, lights := range trace {
			one, other := lights[q[0]], lights[q[1]]
			if many(lights, api.Flash) == len(lights) {
				ended = -1
				continue
			}
			if one != api.Red && other != api.Red {
				t.Fatalf("groups %v meet in tick %d", q, tick)
			}
			begins := other == api.Green && (tick == 0 || trace[tick-1][q[1]] != api.Green)
			if begins && ended >= 0 && tick-ended-1 < s.Between[q[0]][q[1]] {
				t.Fatalf("groups %v: %d ticks between, in tick %d", q, tick-ended-1, tick)
			}
			if one == api.Green {
				ended = tick
			}
		}
	}
}

// wanderer goes through a site's standings, by phases that come and go, with lights among them that have faults.
type wanderer struct {
	source *rand.Rand
	s      api.Site
	now    api.Safe
	phase  int
}

// towards is what the groups show, if a phase is asked for; stay leaves those that are red so, which never has a fault.
func (w *wanderer) towards(set uint32, stay bool) []uint8 {
	lights := make([]uint8, len(w.s.Groups))
	for i, g := range w.s.Groups {
		ask := api.Red
		if set>>uint(i)%2 == 1 && !(stay && w.now.Groups[i].Aspect == api.Red) {
			ask = api.Green
		}
		lights[i] = lamp.Want(g, w.now.Groups[i], ask)
	}
	return lights
}

// some are lights that may have a fault or none.
func (w *wanderer) some() []uint8 {
	lights := w.towards(w.s.Phases[w.phase].Groups, false)
	switch w.source.IntN(12) {
	case 0, 1:
		lights[w.source.IntN(len(lights))] = uint8(w.source.IntN(6))
	case 2:
		lights = w.towards(w.source.Uint32(), false)
	case 3:
		for i, g := range w.now.Groups {
			lights[i] = g.Aspect
		}
	case 4:
		for i := range lights {
			lights[i] = uint8(w.source.IntN(256))
		}
	case 5:
		lights = lights[:w.source.IntN(len(lights)+1)]
	case 6:
		lights = append(lights, api.Red)
	}
	return lights
}

// tick visits some lights, and then those that the site goes on by, which have no fault.
func (w *wanderer) tick(visit func(lights []uint8)) []uint8 {
	if w.source.IntN(9) == 0 {
		w.phase = w.source.IntN(len(w.s.Phases))
	}
	for range 3 {
		visit(w.some())
	}
	lights := w.towards(w.s.Phases[w.phase].Groups, false)
	if slowFault(w.s, w.now, lights) != api.FaultNone {
		visit(lights)
		lights = w.towards(w.s.Phases[w.phase].Groups, true)
	}
	if w.source.IntN(60) == 0 || w.now.Flashed && w.source.IntN(3) == 0 {
		for i := range lights {
			lights[i] = api.Flash
		}
	}
	visit(lights)
	w.now, _ = slowNext(w.s, w.now, lights)
	return lights
}

func newWanderer(source *rand.Rand, s api.Site) *wanderer {
	return &wanderer{source: source, s: s, now: slowFirst(s)}
}

// wander is a trace without a fault.
func wander(source *rand.Rand, s api.Site, ticks int) [][]uint8 {
	w := newWanderer(source, s)
	var trace [][]uint8
	for range ticks {
		trace = append(trace, w.tick(func([]uint8) {}))
	}
	return trace
}
