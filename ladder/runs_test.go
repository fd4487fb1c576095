package ladder

import (
	"math/rand/v2"
	"slices"
	"testing"

	"stopline/api"
)

// What P22.4 says of a run, told from the facts and the modes alone.

// modesOf are the modes ahead of each tick, and behind the last one.
func modesOf(r api.Rung, list []api.Rung) []uint8 {
	modes := []uint8{r.Mode}
	for _, q := range list {
		modes = append(modes, q.Mode)
	}
	return modes
}

// earned tells whether in each of the Heal ticks up to this one a higher mode was allowed than it had, which stayed the same till then. Ticks ahead of the first one are as many as Well tells.
func earned(heal int, r api.Rung, l []api.Facts, modes []uint8, at int) bool {
	for k := at; k > at-heal; k-- {
		if k < 0 {
			return heal-1-at <= r.Well
		}
		if modes[k] != modes[at] || slowMay(api.Rung{}, l[k]) <= modes[at] {
			return false
		}
	}
	return true
}

// goneOut tells whether lights were wrong in a tick up to this one, or it flashed for good ahead of the first one.
func goneOut(r api.Rung, l []api.Facts, at int) bool {
	return r.Latched || slices.ContainsFunc(l[:at+1], func(f api.Facts) bool { return !f.Lights })
}

// holdWhatFollows asks the first three sentences of P22.4 of a run, and tells how often it went up.
func holdWhatFollows(t *testing.T, s api.Site, r api.Rung, l []api.Facts) int {
	t.Helper()
	list, e := Run(s, r, l)
	if e != api.OK || len(list) != len(l) {
		t.Fatal(s.Heal, r, l, list, e)
	}
	modes, ups, last := modesOf(r, list), 0, r
	for at, q := range list {
		told := func(text string) { t.Fatal(text, "Heal", s.Heal, "from", r, "by", l[:at+1], "to", list[:at+1]) }
		switch {
		case !slowMayBe(q):
			told("may not be")
		case q.Mode > slowMay(last, l[at]):
			told("above what is allowed")
		case q.Mode > last.Mode+1:
			told("up by more than one")
		case q.Mode > last.Mode && !earned(s.Heal, r, l, modes, at):
			told("up too early")
		case q.Mode <= last.Mode && slowMay(last, l[at]) > last.Mode && earned(s.Heal, r, l, modes, at):
			told("up too late")
		case q.Mode < last.Mode && q.Mode != slowMay(last, l[at]):
			told("down too far")
		case q.Latched != goneOut(r, l, at) || q.Latched && q.Mode != api.ModeFlash:
			told("for good")
		}
		if q.Mode > last.Mode {
			ups++
		}
		last = q
	}
	return ups
}

// chosen are sets of facts that allow each of the modes, some of them in more ways than one.
func chosen() []api.Facts { return scriptOf("fpe", "fel", "fpl", "pel", "fpel") }

// P22.4: over every short script, from each rung, with each small Heal.
func TestEveryShortScript(t *testing.T) {
	scripts := [][]api.Facts{{}}
	for at := 0; at < len(scripts); at++ {
		if len(scripts[at]) < 5 {
			for _, f := range chosen() {
				scripts = append(scripts, append(slices.Clip(scripts[at]), f))
			}
		}
	}
	ups := 0
	for _, heal := range []int{1, 2, 3, 5} {
		s := healing(heal)
		for _, r := range []api.Rung{{}, {Mode: 1}, {Mode: 2}, {Mode: 3}, {Latched: true}, {Mode: 1, Well: heal - 1}, {Mode: 2, Well: heal}} {
			for _, l := range scripts {
				ups += holdWhatFollows(t, s, r, l)
			}
		}
	}
	if ups < 1000 {
		t.Error(ups)
	}
}

// P22.4: over every script of all that is allowed, or not, in a tick: long enough for two rungs.
func TestUpAndDown(t *testing.T) {
	all, less := factsOf("fpel"), factsOf("el")
	for _, heal := range []int{1, 2, 3, 4} {
		s, twice := healing(heal), 0
		for bits := range 1 << 11 {
			l := []api.Facts{}
			for k := range 11 {
				f := less
				if bits>>k&1 == 1 {
					f = all
				}
				l = append(l, f)
			}
			for _, r := range []api.Rung{First(0), First(3), {}} {
				if holdWhatFollows(t, s, r, l) > 1 {
					twice++
				}
			}
		}
		if twice == 0 {
			t.Error(heal)
		}
	}
}

// P22.4: over many long scripts, from any rung.
func TestManyLongScripts(t *testing.T) {
	source := rand.New(rand.NewPCG(22, 2))
	ups := 0
	for k := range 600 {
		heal := []int{1, 2, 3, 4, 7, 20, 100, 1000}[k%8]
		s := goodSites(heal)[source.IntN(3)]
		l := spells(source, 600, []int{1, 2, 5, 30, 200, 2*heal + 1}[source.IntN(6)], []int{0, 40, 400}[source.IntN(3)])
		ups += holdWhatFollows(t, s, anyRung(source, heal), l)
	}
	if ups < 1000 {
		t.Error(ups)
	}
}

// P22.4, W2: flash for good, whatever comes behind it, and however long.
func TestForGood(t *testing.T) {
	source := rand.New(rand.NewPCG(22, 3))
	for _, heal := range []int{1, 2, 4, 50} {
		s := healing(heal)
		for _, r := range []api.Rung{{}, {Mode: 1}, {Mode: 2, Well: 1}, {Mode: 3}, {Latched: true}} {
			l := slices.Concat(scriptOf("fpe"), spells(source, 500, 20, 0), slices.Repeat(scriptOf("fpel"), 500))
			list, e := Run(s, r, l)
			if e != api.OK || slices.ContainsFunc(list, func(q api.Rung) bool { return q != api.Rung{Latched: true} }) {
				t.Fatal(heal, r, list, e)
			}
		}
	}
}

// reached is how many ticks of the same facts it takes to come to what they allow and stay there; -1, if that is more than it may be.
func reached(t *testing.T, s api.Site, r api.Rung, f api.Facts) int {
	t.Helper()
	behind, want := -1, slowMay(r, f)
	for at := range 3*s.Heal + 5 {
		var e api.Errno
		if r, e = Next(s, r, f); e != api.OK {
			t.Fatal(s, r, f, e)
		}
		switch {
		case r.Mode != want:
			behind = -1
		case behind < 0:
			behind = at + 1
		}
	}
	return behind
}

// P22.4, W3: from any rung that is not Latched, behind 3 Heal ticks of the same facts it has just the mode that they allow; and from flash it takes as many, rung by rung.
func TestReached(t *testing.T) {
	for _, heal := range []int{1, 2, 3, 4, 30} {
		s := healing(heal)
		for mode := range uint8(4) {
			for _, well := range []int{0, 1, heal - 1, heal, top} {
				for _, f := range every() {
					if many := reached(t, s, api.Rung{Mode: mode, Well: well}, f); many < 1 || many > 3*heal {
						t.Error(heal, mode, well, f, many)
					}
				}
			}
		}
		for text, rungs := range map[string]int{"fpel": 3, "pel": 2, "fpl": 2, "l": 1, "fel": 1} {
			if many := reached(t, s, api.Rung{}, factsOf(text)); many != rungs*heal {
				t.Error(heal, text, many)
			}
		}
	}
}

// P22.4: as ahead, behind any script that leaves the lights well.
func TestReachedBehindAnything(t *testing.T) {
	source := rand.New(rand.NewPCG(22, 4))
	for range 600 {
		heal := 1 + source.IntN(30)
		s := healing(heal)
		r := anyRung(source, heal)
		f := every()[source.IntN(16)]
		l := append(spells(source, source.IntN(200), 1+source.IntN(20), 0), slices.Repeat([]api.Facts{f}, 3*heal)...)
		list, e := Run(s, r, l)
		if last := list[len(list)-1]; e != api.OK || last.Mode != slowMay(r, f) || last.Latched != (r.Latched || !f.Lights) {
			t.Fatal(heal, r, f, last, e)
		}
	}
}

// P22.4, W8: the greatest Heal, from flash to the top, tick by tick.
func TestTheGreatestHeal(t *testing.T) {
	r, all := api.Rung{}, factsOf("fpel")
	for at := 1; at <= 3*top; at++ {
		r = later(top, r, all)
		if r.Mode != uint8(at/top) || r.Well != at%top {
			t.Fatal(at, r)
		}
	}
	if r = later(top, r, all); r != (api.Rung{Mode: 3}) {
		t.Error(r)
	}
}
