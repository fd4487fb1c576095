package seq

import (
	"math"
	"math/rand/v2"
	"slices"
	"testing"

	"stopline/api"
	"stopline/gate"
	"stopline/safe"
	"stopline/site"
)

const top = api.MaxTicks

// What the chapter says, word by word, and by other means than the package.

// membersOf are the numbers of a set.
func membersOf(set uint32) []int {
	list := []int{}
	for i, left := 0, set; left > 0; i, left = i+1, left/2 {
		if left%2 == 1 {
			list = append(list, i)
		}
	}
	return list
}

func slowAsks(s api.Site, phase int) []uint8 {
	asks := slices.Repeat([]uint8{api.Red}, len(s.Groups))
	for _, i := range membersOf(s.Phases[phase].Groups) {
		asks[i] = api.Green
	}
	return asks
}

func slowFull(s api.Site, now api.Safe, phase int) bool {
	for _, i := range membersOf(s.Phases[phase].Groups) {
		if now.Groups[i].Aspect != api.Green {
			return false
		}
	}
	return true
}

// slowBehind are the phases behind one, going round: the next numbers, then from 0 on.
func slowBehind(s api.Site, phase int) []int {
	list := []int{}
	for i := phase + 1; i < len(s.Phases); i++ {
		list = append(list, i)
	}
	for i := 0; i < phase; i++ {
		list = append(list, i)
	}
	return list
}

func slowCalled(s api.Site, phase int, calls uint32) bool {
	return s.Phases[phase].Always || slices.Contains(membersOf(calls), phase)
}

func thereIs(s api.Site, phase int) bool {
	for i := range s.Phases {
		if i == phase {
			return true
		}
	}
	return false
}

func slowError(s api.Site, q api.Seq, now api.Safe) api.Errno {
	switch {
	case site.Check(s) != api.OK:
		return api.ErrSite
	case !thereIs(s, q.Phase) || q.Since < 0 || q.Since > 1048576:
		return api.ErrArg
	case len(now.Groups) != len(s.Groups):
		return api.ErrBad
	}
	return api.OK
}

func slowNext(s api.Site, q api.Seq, now api.Safe, calls, gaps uint32) (api.Seq, []uint8, api.Errno) {
	if e := slowError(s, q, now); e != api.OK {
		return api.Seq{}, nil, e
	}
	if !slowFull(s, now, q.Phase) {
		return api.Seq{Phase: q.Phase, Since: 0}, slowAsks(s, q.Phase), api.OK
	}
	since := q.Since
	if since < 1048576 {
		since++
	}
	long := since >= s.Phases[q.Phase].Min
	over := slices.Contains(membersOf(gaps), q.Phase) || since >= s.Phases[q.Phase].Max
	for _, other := range slowBehind(s, q.Phase) {
		if long && over && slowCalled(s, other, calls) {
			return api.Seq{Phase: other, Since: 0}, slowAsks(s, other), api.OK
		}
	}
	return api.Seq{Phase: q.Phase, Since: since}, slowAsks(s, q.Phase), api.OK
}

func slowApart(s api.Site, a, b int) bool { return s.Apart[a]/(1<<uint(b))%2 == 1 }

func slowWorst(s api.Site) int {
	mins, others := []int{}, []int{}
	for a, g := range s.Groups {
		mins, others = append(mins, g.Min), append(others, g.Yellow)
		for b := range s.Groups {
			if slowApart(s, a, b) {
				others = append(others, s.Between[a][b])
			}
		}
	}
	return slices.Max(mins) + slices.Max(others) + 2
}

func slowBound(s api.Site) (int, api.Errno) {
	if e := site.Check(s); e != api.OK {
		return 0, e
	}
	maxes := 0
	for _, p := range s.Phases {
		maxes += p.Max
	}
	return maxes + len(s.Phases)*2 + (len(s.Phases)+1)*slowWorst(s), api.OK
}

// holdNext holds Next against the slow reading; it answers what was told.
func holdNext(t *testing.T, s api.Site, q api.Seq, now api.Safe, calls, gaps uint32) (api.Seq, []uint8) {
	t.Helper()
	got, asks, e := Next(s, q, now, calls, gaps)
	if want, wants, f := slowNext(s, q, now, calls, gaps); got != want || !slices.Equal(asks, wants) || e != f {
		t.Fatalf("Next of %+v behind %+v, calls %b, gaps %b: %+v, %v, %d; not %+v, %v, %d", q, now, calls, gaps, got, asks, e, want, wants, f)
	}
	return got, asks
}

// holdError holds that Next tells an error, and nothing beside it.
func holdError(t *testing.T, s api.Site, q api.Seq, now api.Safe, want api.Errno) {
	t.Helper()
	for _, set := range setsAround(len(s.Phases)) {
		got, asks, e := Next(s, q, now, set, ^set)
		if got != (api.Seq{}) || asks != nil || e != want {
			t.Fatalf("Next of %+v behind %+v: %+v, %v, %d; not %d", q, now, got, asks, e, want)
		}
	}
}

func holdBound(t *testing.T, s api.Site) int {
	t.Helper()
	got, e := Bound(s)
	if want, f := slowBound(s); got != want || e != f {
		t.Fatalf("Bound: %d, %d; not %d, %d", got, e, want, f)
	}
	return got
}

// phasesAround are phases at their edges, for a site of so many.
func phasesAround(many int) []int {
	return []int{math.MinInt, math.MinInt + 1, -1 << 32, -32, -2, -1, 0, 1, many - 2, many - 1, many, many + 1, 7, 8, 9, 31, 32, 33, 63, 64, 1 << 32, math.MaxInt - 1, math.MaxInt}
}

// sincesAround are Sinces at their edges, for a phase.
func sincesAround(p api.Phase) []int {
	return []int{math.MinInt, math.MinInt + 1, -1 << 32, -top, -2, -1, 0, 1, 2, p.Min - 2, p.Min - 1, p.Min, p.Min + 1, p.Max - 2, p.Max - 1, p.Max, p.Max + 1, top - 2, top - 1, top, top + 1, top + 2, 1 << 32, 1<<32 + 1, math.MaxInt - 1, math.MaxInt}
}

// setsAround are calls and gaps at their edges, for a site of so many phases: none, all, those that there are, and those that there are not.
func setsAround(many int) []uint32 {
	there := uint32(1)<<uint(many) - 1
	list := []uint32{0, math.MaxUint32, there, ^there, 1 << uint(many), 1 << 31, 1<<31 + 1, 1<<16 + 1}
	for i := range many {
		bit := uint32(1) << uint(i)
		list = append(list, bit, there-bit, ^bit, bit+^there)
	}
	return list
}

// first is how a site stands at first.
func first(s api.Site) api.Safe {
	now, e := safe.First(s)
	if e != api.OK {
		panic(e)
	}
	return now
}

// stands reads a standing: an aspect of each group by its letter.
func stands(text string) api.Safe {
	now := api.Safe{}
	for _, r := range text {
		aspect := map[rune]uint8{'R': api.Red, 'G': api.Green, 'Y': api.Yellow, 'F': api.Flash, 'D': api.Dark}[r]
		now.Groups = append(now.Groups, api.Seen{Aspect: aspect, Since: 9})
	}
	return now
}

// filled is a standing in which a phase is full, and all other groups are red.
func filled(s api.Site, phase int) api.Safe {
	now := api.Safe{}
	for _, aspect := range slowAsks(s, phase) {
		now.Groups = append(now.Groups, api.Seen{Aspect: aspect, Since: 9, Ended: 9})
	}
	return now
}

// shown is how a site stands behind a tick in which so much is asked of the gate: a panic, if something is wrong on the way.
func shown(s api.Site, now api.Safe, asks []uint8) api.Safe {
	lights, e := gate.Admit(s, now, asks)
	next, fault, f := safe.Next(s, now, lights)
	if e != api.OK || f != api.OK || fault != api.FaultNone {
		panic("stopline: a tick that has no next one")
	}
	return next
}

// anyAsks are asks of any aspects, of a phase more often than not.
func anyAsks(source *rand.Rand, s api.Site, phase int) []uint8 {
	if source.IntN(70) == 0 {
		return slices.Repeat([]uint8{api.Flash}, len(s.Groups))
	}
	asks := slowAsks(s, phase)
	for i := range asks {
		if source.IntN(20) == 0 {
			asks[i] = []uint8{api.Dark, api.Red, api.Green, api.Green, api.Yellow, api.Flash, 255}[source.IntN(7)]
		}
	}
	return asks
}

// behindAsks is a standing that is not Flashed, and whose Start is 0, behind many random asks from the first one on.
func behindAsks(source *rand.Rand, s api.Site) api.Safe {
	now, phase := first(s), source.IntN(len(s.Phases))
	for left := 20 + source.IntN(60); left > 0 || now.Flashed || now.Start > 0; left-- {
		if source.IntN(8) == 0 {
			phase = source.IntN(len(s.Phases))
		}
		now = shown(s, now, anyAsks(source, s, phase))
	}
	return now
}

// anyStanding is one that goes on, is not Flashed, and whose Start is 0, whatever could have led to it.
func anyStanding(source *rand.Rand, s api.Site) api.Safe {
	now := api.Safe{}
	for i := range s.Groups {
		seen := api.Seen{Aspect: api.Red, Since: anyCount(source), Ended: anyCount(source)}
		free := true
		for k, other := range now.Groups {
			free = free && !(slowApart(s, i, k) && other.Aspect != api.Red)
		}
		if free && source.IntN(2) == 0 {
			seen.Aspect = []uint8{api.Green, api.Yellow}[source.IntN(2)]
		}
		now.Groups = append(now.Groups, seen)
	}
	return now
}

func anyCount(source *rand.Rand) int {
	edges := []int{math.MinInt, -1, 0, 0, 1, 2, top - 1, top, top + 1, math.MaxInt}
	if source.IntN(3) == 0 {
		return edges[source.IntN(len(edges))]
	}
	return source.IntN(12)
}

// anyPlace is a place of a site.
func anyPlace(source *rand.Rand, s api.Site) api.Seq {
	phase := source.IntN(len(s.Phases))
	sinces := slices.DeleteFunc(sincesAround(s.Phases[phase]), func(n int) bool { return n < 0 || n > top })
	return api.Seq{Phase: phase, Since: sinces[source.IntN(len(sinces))]}
}
