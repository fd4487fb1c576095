package turn

import (
	"math"
	"math/rand/v2"
	"slices"
	"testing"

	"stopline/api"
	"stopline/gate"
	"stopline/safe"
	"stopline/site"
)

const top = api.MaxTicks

// What the chapter says, word by word, and by other means than the package.

// groupsOf are the numbers of a phase's groups.
func groupsOf(s api.Site, phase int) []int {
	list := []int{}
	for i, left := 0, s.Phases[phase].Groups; left > 0; i, left = i+1, left/2 {
		if left%2 == 1 {
			list = append(list, i)
		}
	}
	return list
}

func thereIs(s api.Site, phase int) bool {
	for i := range s.Phases {
		if i == phase {
			return true
		}
	}
	return false
}

func all(s api.Site, aspect uint8) []uint8 { return slices.Repeat([]uint8{aspect}, len(s.Groups)) }

func slowAsks(s api.Site, phase int) ([]uint8, api.Errno) {
	if e := site.Check(s); e != api.OK {
		return nil, e
	}
	if !thereIs(s, phase) {
		return nil, api.ErrArg
	}
	asks := all(s, api.Red)
	for _, i := range groupsOf(s, phase) {
		asks[i] = api.Green
	}
	return asks, api.OK
}

func greens(s api.Site, now api.Safe, phase int) int {
	many := 0
	for _, i := range groupsOf(s, phase) {
		if now.Groups[i].Aspect == api.Green {
			many++
		}
	}
	return many
}

func slowFull(s api.Site, now api.Safe, phase int) (bool, api.Errno) {
	switch {
	case site.Check(s) != api.OK:
		return false, api.ErrSite
	case len(now.Groups) != len(s.Groups):
		return false, api.ErrBad
	case !thereIs(s, phase):
		return false, api.ErrArg
	}
	return greens(s, now, phase) == len(groupsOf(s, phase)), api.OK
}

func slowGreatest(s api.Site) int {
	all := []int{0}
	for a := range s.Groups {
		for b := range s.Groups {
			if slowApart(s, a, b) {
				all = append(all, s.Between[a][b])
			}
		}
	}
	return slices.Max(all)
}

func slowApart(s api.Site, a, b int) bool { return s.Apart[a]/(1<<uint(b))%2 == 1 }

func slowWorst(s api.Site) (int, api.Errno) {
	if e := site.Check(s); e != api.OK {
		return 0, e
	}
	mins, others := []int{}, []int{slowGreatest(s)}
	for _, g := range s.Groups {
		mins, others = append(mins, g.Min), append(others, g.Yellow)
	}
	return slices.Max(mins) + slices.Max(others) + 2, api.OK
}

// slowGoesOn is chapters 8 and 9's: it is asked of no package here.
func slowGoesOn(s api.Site, now api.Safe) bool {
	if len(now.Groups) != len(s.Groups) || now.Start < 0 || now.Start > 1048576 {
		return false
	}
	for a, x := range now.Groups {
		goes := slices.Contains([]uint8{api.Red, api.Green, api.Yellow}, x.Aspect)
		if now.Flashed != (x.Aspect == api.Flash) || !now.Flashed && !goes || !now.Flashed && now.Start > 0 && x.Aspect != api.Red {
			return false
		}
		for b, y := range now.Groups {
			if !now.Flashed && slowApart(s, a, b) && x.Aspect != api.Red && y.Aspect != api.Red {
				return false
			}
		}
	}
	return true
}

// slowSteps goes through the ticks one by one.
func slowSteps(s api.Site, now api.Safe, phase int) (int, api.Errno) {
	switch {
	case site.Check(s) != api.OK:
		return 0, api.ErrSite
	case !slowGoesOn(s, now):
		return 0, api.ErrBad
	case !thereIs(s, phase):
		return 0, api.ErrArg
	}
	ticks := 0
	for greens(s, now, phase) < len(groupsOf(s, phase)) {
		if ticks == 4096 {
			return 0, api.ErrMany
		}
		now = behind(s, now, phase, 1)
		ticks++
	}
	return ticks, api.OK
}

// behind is how a site stands behind so many ticks in which a phase asks: a panic, if something is wrong on the way.
func behind(s api.Site, now api.Safe, phase, many int) api.Safe {
	for range many {
		asks, e := Asks(s, phase)
		lights, f := gate.Admit(s, now, asks)
		next, fault, g := safe.Next(s, now, lights)
		if e != api.OK || f != api.OK || g != api.OK || fault != api.FaultNone {
			panic("stopline: a tick that has no next one")
		}
		now = next
	}
	return now
}

func counts(n int) int { return min(max(n, 0), top) }

// reckoned is how many ticks it takes, however many, told of each group on its own and without going through them. A standing that goes on and a phase that there is are asked for.
func reckoned(s api.Site, now api.Safe, phase int) int {
	reds := now.Start
	if now.Flashed {
		reds = max(slowGreatest(s), 1)
	}
	last := 0
	for _, it := range groupsOf(s, phase) {
		if now.Groups[it].Aspect == api.Green {
			continue
		}
		first := reds + 1
		if now.Groups[it].Aspect == api.Yellow {
			// The rest of its yellow, and a tick of red: from yellow nothing turns green.
			first = max(s.Groups[it].Yellow-counts(now.Groups[it].Since), 0) + 2
		}
		for that := range s.Groups {
			if slowApart(s, that, it) {
				first = max(first, reckonedOpen(s, now, that, s.Between[that][it]))
			}
		}
		last = max(last, first)
	}
	return last
}

// reckonedOpen is the first tick in which a group that is asked to be red bars one no more that must lie so many ticks behind its green.
func reckonedOpen(s api.Site, now api.Safe, that, between int) int {
	g, seen := s.Groups[that], now.Groups[that]
	since, ended := counts(seen.Since), counts(seen.Ended)
	switch seen.Aspect {
	case api.Green:
		if since < g.Min {
			return g.Min - since + between + 1
		}
		// No tick of green more: an Ended that was handed in counts on, though green has none.
		return max(g.Yellow+1, between-ended+1)
	case api.Yellow:
		return max(max(g.Yellow-since, 0)+1, between-ended+1)
	}
	return between - ended + 1
}

// holdSteps holds Steps against both readings and against P15.5; it answers what was told.
func holdSteps(t *testing.T, s api.Site, now api.Safe, phase int) int {
	t.Helper()
	got, e := Steps(s, now, phase)
	if want, f := slowSteps(s, now, phase); got != want || e != f {
		t.Fatalf("Steps of phase %d behind %+v: %d, %d; going through the ticks: %d, %d", phase, now, got, e, want, f)
	}
	if e != api.OK && e != api.ErrMany {
		return 0
	}
	want := reckoned(s, now, phase)
	if e == api.OK && got != want || (e == api.ErrMany) != (want > 4096) {
		t.Fatalf("Steps of phase %d behind %+v: %d, %d; reckoned: %d", phase, now, got, e, want)
	}
	worst, _ := slowWorst(s)
	room := now.Start
	if now.Flashed {
		room = slowGreatest(s)
	}
	if e == api.OK && got > worst+room || want > worst+room {
		t.Fatalf("Steps of phase %d behind %+v: %d, reckoned %d; the worst turn is %d", phase, now, got, want, worst)
	}
	if full, f := Full(s, now, phase); f != api.OK || full != (got == 0 && e == api.OK) {
		t.Fatalf("phase %d behind %+v: full %t, %d; %d steps", phase, now, full, f, got)
	}
	return got
}

func holdFull(t *testing.T, s api.Site, now api.Safe, phase int) bool {
	t.Helper()
	got, e := Full(s, now, phase)
	if want, f := slowFull(s, now, phase); got != want || e != f {
		t.Fatalf("Full of phase %d behind %+v: %t, %d; not %t, %d", phase, now, got, e, want, f)
	}
	return got
}

func holdAsks(t *testing.T, s api.Site, phase int) {
	t.Helper()
	got, e := Asks(s, phase)
	if want, f := slowAsks(s, phase); !slices.Equal(got, want) || e != f {
		t.Fatalf("Asks of phase %d: %v, %d; not %v, %d", phase, got, e, want, f)
	}
}

func holdWorst(t *testing.T, s api.Site) {
	t.Helper()
	got, e := Worst(s)
	if want, f := slowWorst(s); got != want || e != f {
		t.Fatalf("Worst: %d, %d; not %d, %d", got, e, want, f)
	}
}

// phasesAround are phases at their edges, for a site of so many.
func phasesAround(many int) []int {
	return []int{math.MinInt, math.MinInt + 1, -1 << 32, -32, -2, -1, 0, 1, many - 2, many - 1, many, many + 1, 7, 8, 9, 31, 32, 33, 63, 64, 1 << 32, math.MaxInt - 1, math.MaxInt}
}

// first is how a site stands at first.
func first(s api.Site) api.Safe {
	now, e := safe.First(s)
	if e != api.OK {
		panic(e)
	}
	return now
}

// stands reads a standing: an aspect of each group by its letter, all since so long, and those that are not green ended so long ago.
func stands(text string, since, ended int) api.Safe {
	now := api.Safe{}
	for _, r := range text {
		aspect := map[rune]uint8{'R': api.Red, 'G': api.Green, 'Y': api.Yellow, 'F': api.Flash, 'D': api.Dark}[r]
		seen := api.Seen{Aspect: aspect, Since: since, Ended: ended}
		if aspect == api.Green {
			seen.Ended = 0
		}
		now.Groups = append(now.Groups, seen)
	}
	return now
}

func starting(now api.Safe, start int) api.Safe {
	now.Start = start
	return now
}

func flashed(now api.Safe) api.Safe {
	now.Flashed = true
	return now
}

// anyAsks are asks of any aspects, of phases more often than not.
func anyAsks(source *rand.Rand, s api.Site, phase int) []uint8 {
	if source.IntN(70) == 0 {
		return all(s, api.Flash)
	}
	asks, _ := slowAsks(s, phase)
	for i := range asks {
		if source.IntN(20) == 0 {
			asks[i] = []uint8{api.Dark, api.Red, api.Green, api.Green, api.Yellow, api.Flash, 255}[source.IntN(7)]
		}
	}
	return asks
}

// anyStanding is one that goes on, whatever could have led to it.
func anyStanding(source *rand.Rand, s api.Site) api.Safe {
	now := api.Safe{}
	kind := source.IntN(8)
	for i := range s.Groups {
		seen := api.Seen{Aspect: api.Red, Since: anyCount(source), Ended: anyCount(source)}
		free := true
		for k, other := range now.Groups {
			free = free && !(slowApart(s, i, k) && other.Aspect != api.Red)
		}
		if free && kind > 1 && source.IntN(2) == 0 {
			seen.Aspect = []uint8{api.Green, api.Yellow}[source.IntN(2)]
		}
		if kind == 0 {
			seen.Aspect = api.Flash
		}
		now.Groups = append(now.Groups, seen)
	}
	now.Flashed = kind == 0
	if kind <= 1 {
		now.Start = counts(anyCount(source))
	}
	return now
}

func anyCount(source *rand.Rand) int {
	edges := []int{math.MinInt, -1, 0, 0, 1, 2, top - 1, top, top + 1, math.MaxInt}
	if source.IntN(3) == 0 {
		return edges[source.IntN(len(edges))]
	}
	return source.IntN(12)
}
