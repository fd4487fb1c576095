package ladder

import (
	"math"
	"math/rand/v2"
	"slices"
	"testing"

	"stopline/api"
	"stopline/site"
)

// What the chapter says, word by word, and by other means than the package.

func slowMayBe(r api.Rung) bool {
	if r.Mode > 3 || r.Well < 0 || r.Well > 1048576 {
		return false
	}
	if r.Latched && r.Mode != 0 {
		return false
	}
	if r.Latched && r.Well != 0 {
		return false
	}
	return true
}

// slowMay goes up from flash, as long as there is what the next mode asks for.
func slowMay(r api.Rung, f api.Facts) uint8 {
	mode := uint8(0)
	if !r.Latched && f.Lights {
		mode = 1
		if f.Plan {
			mode = 2
			if f.Fresh && f.Eyes {
				mode = 3
			}
		}
	}
	return mode
}

func slowLater(heal int, r api.Rung, f api.Facts) api.Rung {
	if r.Latched || !f.Lights {
		r.Latched = true
		r.Mode = 0
		r.Well = 0
		return r
	}
	m := slowMay(r, f)
	if m < r.Mode {
		r.Mode = m
		r.Well = 0
	} else if m == r.Mode {
		r.Well = 0
	} else {
		r.Well++
		if !(r.Well < heal) {
			r.Mode++
			r.Well = 0
		}
	}
	return r
}

func slowError(s api.Site, r api.Rung) api.Errno {
	if site.Check(s) != api.OK {
		return api.ErrSite
	}
	if !slowMayBe(r) {
		return api.ErrBad
	}
	return api.OK
}

func slowNext(s api.Site, r api.Rung, f api.Facts) (api.Rung, api.Errno) {
	if e := slowError(s, r); e != api.OK {
		return api.Rung{}, e
	}
	return slowLater(s.Heal, r, f), api.OK
}

func slowRun(s api.Site, r api.Rung, l []api.Facts) ([]api.Rung, api.Errno) {
	if e := slowError(s, r); e != api.OK {
		return nil, e
	}
	if len(l) > 4096 {
		return nil, api.ErrMany
	}
	list := []api.Rung{}
	for len(l) > len(list) {
		r = slowLater(s.Heal, r, l[len(list)])
		list = append(list, r)
	}
	return list, api.OK
}

// holdNext holds May and Next against the slow reading.
func holdNext(t *testing.T, s api.Site, r api.Rung, f api.Facts) {
	t.Helper()
	if m := May(r, f); m != slowMay(r, f) {
		t.Fatal("May", r, f, "told", m)
	}
	q, e := Next(s, r, f)
	if want, g := slowNext(s, r, f); q != want || e != g {
		t.Fatal("Next", s, r, f, "told", q, e, "not", want, g)
	}
}

// holdRun holds Run against the slow reading, and against Next, one by one.
func holdRun(t *testing.T, s api.Site, r api.Rung, l []api.Facts) []api.Rung {
	t.Helper()
	list, e := Run(s, r, l)
	want, f := slowRun(s, r, l)
	if !slices.Equal(list, want) || e != f {
		t.Fatal("Run", s, r, len(l), "told", list, e, "not", want, f)
	}
	if e != api.OK {
		if list != nil {
			t.Fatal("told beside an error", list, e)
		}
		return nil
	}
	q := r
	for i, x := range l {
		var g api.Errno
		if q, g = Next(s, q, x); g != api.OK || q != list[i] {
			t.Fatal("Next", s, r, l[:i+1], "told", q, g, "not", list[i])
		}
	}
	return list
}

// every are the sixteen sets of facts.
func every() []api.Facts {
	var list []api.Facts
	for i := range 16 {
		list = append(list, api.Facts{Fresh: i&1 > 0, Plan: i&2 > 0, Eyes: i&4 > 0, Lights: i&8 > 0})
	}
	return list
}

// wells are Wells at their edges, and around a Heal.
func wells(heal int) []int {
	list := []int{math.MinInt, -1, 0, 1, heal - 2, heal - 1, heal, heal + 1, top - 1, top, top + 1, math.MaxInt}
	slices.Sort(list)
	return slices.Compact(list)
}

func heals() []int { return []int{1, 2, 3, 4, 99, top - 1, top} }

// factsOf reads facts: a letter of "fpel" for each that is true.
func factsOf(text string) api.Facts {
	has := func(letter rune) bool { return slices.Contains([]rune(text), letter) }
	return api.Facts{Fresh: has('f'), Plan: has('p'), Eyes: has('e'), Lights: has('l')}
}

func scriptOf(texts ...string) []api.Facts {
	list := []api.Facts{}
	for _, text := range texts {
		list = append(list, factsOf(text))
	}
	return list
}

// spells are facts in spells of the same, each of up to so many ticks; lights are wrong in one of so many spells, or never, where dark is 0.
func spells(source *rand.Rand, many, longest, dark int) []api.Facts {
	list := []api.Facts{}
	for len(list) < many {
		f := every()[source.IntN(16)]
		f.Lights = dark == 0 || source.IntN(dark) > 0
		if source.IntN(2) == 0 {
			f.Fresh, f.Plan, f.Eyes = true, true, true
		}
		list = append(list, slices.Repeat([]api.Facts{f}, min(1+source.IntN(longest), many-len(list)))...)
	}
	return list
}

// anyRung is one that may be.
func anyRung(source *rand.Rand, heal int) api.Rung {
	if source.IntN(8) == 0 {
		return api.Rung{Latched: true}
	}
	wells := []int{0, source.IntN(heal), heal - 1, heal, source.IntN(top + 1), top}
	return api.Rung{Mode: uint8(source.IntN(4)), Well: wells[source.IntN(len(wells))]}
}
