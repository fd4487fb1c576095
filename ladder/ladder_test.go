package ladder

import (
	"math"
	"math/rand/v2"
	"slices"
	"testing"

	"stopline/api"
	"stopline/site"
)

// The numbers that the document gives; and that the sites that the tests lean on may be, or may not.
func TestGivenNumbers(t *testing.T) {
	if top != 1048576 || api.MaxScript != 4096 || api.ErrMany != 4 || api.ErrBad != 8 || api.ErrSite != 50 || api.OK != 0 {
		t.Error(top, api.MaxScript, int(api.ErrMany), int(api.ErrBad), int(api.ErrSite), int(api.OK))
	}
	if given := [4]uint8{uint8(flash), uint8(alone), uint8(stored), uint8(master)}; given != [4]uint8{api.ModeFlash, api.ModeAlone, api.ModeStored, api.ModeMaster} || given != [4]uint8{0, 1, 2, 3} {
		t.Error(given)
	}
	for _, heal := range heals() {
		for i, s := range goodSites(heal) {
			if site.Check(s) != api.OK || s.Heal != heal {
				t.Error(heal, i)
			}
		}
	}
	for i, s := range badSites() {
		if site.Check(s) != api.ErrSite {
			t.Error(i, s)
		}
	}
}

// Every row of the chapter's examples.
func TestExamples(t *testing.T) {
	s, all := example(), factsOf("fpel")
	r := api.Rung{Mode: api.ModeStored}
	for i, want := range []api.Rung{{Mode: 2, Well: 1}, {Mode: 2, Well: 2}, {Mode: 2, Well: 3}, {Mode: 3}} {
		var e api.Errno
		if r, e = Next(s, r, all); r != want || e != api.OK {
			t.Error(i, r, e)
		}
	}
	for i, c := range []struct {
		r    api.Rung
		f    string
		want api.Rung
	}{
		{api.Rung{Mode: api.ModeMaster}, "pel", api.Rung{Mode: api.ModeStored}},
		{api.Rung{Mode: api.ModeMaster}, "fel", api.Rung{Mode: api.ModeAlone}},
		{api.Rung{Mode: api.ModeMaster}, "fpe", api.Rung{Mode: api.ModeFlash, Latched: true}},
		{api.Rung{Mode: api.ModeFlash}, "fpel", api.Rung{Mode: api.ModeFlash, Well: 1}},
	} {
		if q, e := Next(s, c.r, factsOf(c.f)); q != c.want || e != api.OK {
			t.Error(i, c, q, e)
		}
	}
	if m := May(api.Rung{Mode: api.ModeFlash}, all); m != api.ModeMaster {
		t.Error("May", m)
	}
	if First(3) != (api.Rung{Mode: api.ModeStored}) || First(0) != (api.Rung{Mode: api.ModeAlone}) {
		t.Error("First", First(3), First(0))
	}
}

// P22.1: what each set of facts allows, written out.
func TestMayByHand(t *testing.T) {
	for text, want := range map[string]uint8{
		"": 0, "f": 0, "p": 0, "e": 0, "fp": 0, "fe": 0, "pe": 0, "fpe": 0,
		"l": 1, "fl": 1, "el": 1, "fel": 1,
		"pl": 2, "fpl": 2, "pel": 2,
		"fpel": 3,
	} {
		for mode := range 4 {
			if m := May(api.Rung{Mode: uint8(mode)}, factsOf(text)); m != want {
				t.Error(text, mode, m)
			}
		}
		if m := May(api.Rung{Latched: true}, factsOf(text)); m != 0 {
			t.Error("latched", text, m)
		}
	}
}

// P22.1: of any rung, also of one that may not be: neither its Mode nor its Well counts, Latched does.
func TestMayOfAnyRung(t *testing.T) {
	for mode := range 256 {
		for _, well := range wells(4) {
			for _, is := range []bool{false, true} {
				for _, f := range every() {
					r := api.Rung{Mode: uint8(mode), Well: well, Latched: is}
					if m := May(r, f); m != slowMay(r, f) {
						t.Fatal(r, f, m)
					}
				}
			}
		}
	}
}

// P22.1: First of each number that there is.
func TestFirst(t *testing.T) {
	for kept := range 256 {
		want := api.Rung{Mode: 1}
		if kept == 2 || kept == 3 {
			want.Mode = 2
		}
		if r := First(uint8(kept)); r != want || !slowMayBe(r) {
			t.Error(kept, r)
		}
	}
}

// P22.2: what stands a tick later, written out: Heal 3.
func TestNextByHand(t *testing.T) {
	s := healing(3)
	for i, c := range []struct {
		r    api.Rung
		f    string
		want api.Rung
	}{
		// Down at once, over as many rungs as there are; Well is forgotten.
		{api.Rung{Mode: 3, Well: 2}, "fpl", api.Rung{Mode: 2}},
		{api.Rung{Mode: 3, Well: 2}, "l", api.Rung{Mode: 1}},
		{api.Rung{Mode: 2, Well: 2}, "fel", api.Rung{Mode: 1}},
		{api.Rung{Mode: 3, Well: top}, "pel", api.Rung{Mode: 2}},
		// As it may be: Well is forgotten.
		{api.Rung{Mode: 3, Well: 2}, "fpel", api.Rung{Mode: 3}},
		{api.Rung{Mode: 3, Well: top}, "fpel", api.Rung{Mode: 3}},
		{api.Rung{Mode: 2, Well: 2}, "pl", api.Rung{Mode: 2}},
		{api.Rung{Mode: 1, Well: 1}, "l", api.Rung{Mode: 1}},
		// Up: short of Heal, at it, and past it; by one rung alone.
		{api.Rung{Mode: 2}, "fpel", api.Rung{Mode: 2, Well: 1}},
		{api.Rung{Mode: 2, Well: 1}, "fpel", api.Rung{Mode: 2, Well: 2}},
		{api.Rung{Mode: 2, Well: 2}, "fpel", api.Rung{Mode: 3}},
		{api.Rung{Mode: 2, Well: 3}, "fpel", api.Rung{Mode: 3}},
		{api.Rung{Mode: 1, Well: 1}, "pl", api.Rung{Mode: 1, Well: 2}},
		{api.Rung{Mode: 1, Well: 2}, "pl", api.Rung{Mode: 2}},
		{api.Rung{Mode: 1, Well: 2}, "fpel", api.Rung{Mode: 2}},
		{api.Rung{Mode: 1, Well: top}, "fpel", api.Rung{Mode: 2}},
		{api.Rung{Mode: 0, Well: 1}, "l", api.Rung{Mode: 0, Well: 2}},
		{api.Rung{Mode: 0, Well: 2}, "l", api.Rung{Mode: 1}},
		{api.Rung{Mode: 0, Well: 2}, "fpel", api.Rung{Mode: 1}},
		{api.Rung{Mode: 0, Well: top}, "fpel", api.Rung{Mode: 1}},
		// Wrong lights, and flash for good.
		{api.Rung{Mode: 3, Well: 2}, "fpe", api.Rung{Latched: true}},
		{api.Rung{Mode: 1, Well: 2}, "", api.Rung{Latched: true}},
		{api.Rung{Mode: 0, Well: 2}, "fpe", api.Rung{Latched: true}},
		{api.Rung{Mode: 0}, "p", api.Rung{Latched: true}},
		{api.Rung{Latched: true}, "fpel", api.Rung{Latched: true}},
		{api.Rung{Latched: true}, "", api.Rung{Latched: true}},
	} {
		if q, e := Next(s, c.r, factsOf(c.f)); q != c.want || e != api.OK {
			t.Error(i, c, q, e)
		}
	}
}

// P22.2: the least Heal, by which it goes up in each tick, and the greatest one.
func TestHealAtItsEdges(t *testing.T) {
	all := factsOf("fpel")
	for i, c := range []struct {
		heal    int
		r, want api.Rung
	}{
		{1, api.Rung{}, api.Rung{Mode: 1}},
		{1, api.Rung{Mode: 1}, api.Rung{Mode: 2}},
		{1, api.Rung{Mode: 2}, api.Rung{Mode: 3}},
		{1, api.Rung{Mode: 2, Well: top}, api.Rung{Mode: 3}},
		{2, api.Rung{Mode: 2}, api.Rung{Mode: 2, Well: 1}},
		{2, api.Rung{Mode: 2, Well: 1}, api.Rung{Mode: 3}},
		{top, api.Rung{Mode: 2}, api.Rung{Mode: 2, Well: 1}},
		{top, api.Rung{Mode: 2, Well: top - 2}, api.Rung{Mode: 2, Well: top - 1}},
		{top, api.Rung{Mode: 2, Well: top - 1}, api.Rung{Mode: 3}},
		{top, api.Rung{Mode: 2, Well: top}, api.Rung{Mode: 3}},
		{top - 1, api.Rung{Mode: 0, Well: top - 3}, api.Rung{Mode: 0, Well: top - 2}},
		{top - 1, api.Rung{Mode: 0, Well: top - 2}, api.Rung{Mode: 1}},
	} {
		if q, e := Next(healing(c.heal), c.r, all); q != c.want || e != api.OK {
			t.Error(i, c, q, e)
		}
	}
}

// P22.1, P22.2, W8: each mode that a number can tell, Latched or not, each set of facts, each Well at its edges, each Heal, against the slow reading.
func TestNextAtTheEdges(t *testing.T) {
	for _, heal := range heals() {
		for _, s := range goodSites(heal) {
			for _, well := range wells(heal) {
				for mode := range 256 {
					for _, is := range []bool{false, true} {
						f := every()[(mode+well&15)&15]
						holdNext(t, s, api.Rung{Mode: uint8(mode), Well: well, Latched: is}, f)
						if mode < 6 || mode == 255 {
							for _, f := range every() {
								holdNext(t, s, api.Rung{Mode: uint8(mode), Well: well, Latched: is}, f)
							}
						}
					}
				}
			}
		}
	}
}

// P22.1, P22.2: as ahead, all modes beside all sets of facts, of one site.
func TestNextOfEachMode(t *testing.T) {
	s := example()
	for mode := range 256 {
		for _, well := range wells(s.Heal) {
			for _, is := range []bool{false, true} {
				for _, f := range every() {
					holdNext(t, s, api.Rung{Mode: uint8(mode), Well: well, Latched: is}, f)
				}
			}
		}
	}
}

// P22.2: every Well from below 0 to past each small Heal.
func TestEachSmallWell(t *testing.T) {
	for heal := 1; heal <= 12; heal++ {
		s := healing(heal)
		for well := -2; well < heal+4; well++ {
			for mode := range 5 {
				for _, f := range every() {
					holdNext(t, s, api.Rung{Mode: uint8(mode), Well: well}, f)
				}
			}
		}
	}
}

// wrongRungs may not be, each for one cause alone, or for more.
func wrongRungs() []api.Rung {
	list := []api.Rung{{Well: 1, Latched: true}, {Well: top, Latched: true}, {Well: -1, Latched: true}, {Mode: 9, Well: -9, Latched: true}}
	for mode := 4; mode < 256; mode++ {
		list = append(list, api.Rung{Mode: uint8(mode)}, api.Rung{Mode: uint8(mode), Latched: true})
	}
	for mode := range 4 {
		for _, well := range []int{math.MinInt, math.MinInt + 1, -top, -1, top + 1, 1 << 31, 1 << 32, math.MaxInt - 1, math.MaxInt} {
			list = append(list, api.Rung{Mode: uint8(mode), Well: well})
		}
		if mode > 0 {
			list = append(list, api.Rung{Mode: uint8(mode), Latched: true}, api.Rung{Mode: uint8(mode), Well: 1, Latched: true})
		}
	}
	return list
}

// P22.2: rungs that may not be are ErrBad, also of many facts; nothing is told beside it.
func TestWrongRungs(t *testing.T) {
	many := make([]api.Facts, api.MaxScript+1)
	for _, r := range wrongRungs() {
		for _, f := range []api.Facts{{}, factsOf("fpel"), factsOf("l")} {
			if q, e := Next(example(), r, f); q != (api.Rung{}) || e != api.ErrBad {
				t.Error(r, f, q, e)
			}
		}
		for _, l := range [][]api.Facts{nil, {}, many[:1], many[:api.MaxScript], many} {
			if list, e := Run(example(), r, l); list != nil || e != api.ErrBad {
				t.Error(r, len(l), list, e)
			}
		}
	}
}

// P22.2: a site that may not be is asked for ahead of all else.
func TestWrongSites(t *testing.T) {
	many := make([]api.Facts, api.MaxScript+1)
	rungs := append(wrongRungs()[:6], api.Rung{}, api.Rung{Mode: 3}, api.Rung{Mode: 1, Well: 3}, api.Rung{Latched: true}, api.Rung{Well: -1})
	for i, s := range badSites() {
		for _, r := range rungs {
			for _, f := range []api.Facts{{}, factsOf("fpel")} {
				if q, e := Next(s, r, f); q != (api.Rung{}) || e != api.ErrSite {
					t.Error(i, r, f, q, e)
				}
			}
			for _, l := range [][]api.Facts{nil, many[:1], many[:api.MaxScript], many} {
				if list, e := Run(s, r, l); list != nil || e != api.ErrSite {
					t.Error(i, r, len(l), list, e)
				}
			}
		}
	}
}

// P22.2: as many facts as may be, one more, none at all, and very many.
func TestHowManyFacts(t *testing.T) {
	huge := slices.Repeat(scriptOf("fpel", "pl", "fpel", "fpel"), 1<<18)
	for _, heal := range []int{1, 3, 4095, 4096, 4097, top} {
		s := healing(heal)
		for _, r := range []api.Rung{{}, {Mode: 1, Well: 2}, {Mode: 3, Well: top}, {Latched: true}} {
			for many := range 6 {
				holdRun(t, s, r, huge[:many])
			}
			for _, many := range []int{api.MaxScript - 1, api.MaxScript} {
				if list := holdRun(t, s, r, huge[:many]); len(list) != many {
					t.Error(heal, r, many, len(list))
				}
			}
			for _, many := range []int{api.MaxScript + 1, 2 * api.MaxScript, len(huge)} {
				if list, e := Run(s, r, huge[:many]); list != nil || e != api.ErrMany {
					t.Error(heal, r, many, len(list), e)
				}
			}
			if list, e := Run(s, r, nil); len(list) != 0 || e != api.OK {
				t.Error(list, e)
			}
		}
	}
}

// P22.2: a run written out, with each rung behind each tick: Heal 2.
func TestRunByHand(t *testing.T) {
	list, e := Run(healing(2), First(api.ModeFlash), scriptOf("pl", "fpel", "fpel", "fpl", "fpel", "fpel", "fpel", "fel", "fpl", "fpl", "l", "fpel", "e", "fpel"))
	want := []api.Rung{
		{Mode: 1, Well: 1}, {Mode: 2}, {Mode: 2, Well: 1}, {Mode: 2}, {Mode: 2, Well: 1}, {Mode: 3}, {Mode: 3},
		{Mode: 1}, {Mode: 1, Well: 1}, {Mode: 2}, {Mode: 1}, {Mode: 1, Well: 1}, {Latched: true}, {Latched: true},
	}
	if !slices.Equal(list, want) || e != api.OK {
		t.Error(list, e)
	}
}

// P22.2: Run is Next, one by one, over many scripts, from any rung, with any Heal; and how a script is cut makes no difference.
func TestManyScripts(t *testing.T) {
	source := rand.New(rand.NewPCG(22, 1))
	for k := range 1200 {
		heal := []int{1, 2, 3, 1 + source.IntN(40), 1 + source.IntN(top), top}[k%6]
		s := goodSites(heal)[source.IntN(3)]
		r := anyRung(source, heal)
		l := spells(source, source.IntN(200), 1+source.IntN(50), source.IntN(60))
		list := holdRun(t, s, r, l)
		cut := source.IntN(len(l) + 1)
		ahead := holdRun(t, s, r, l[:cut])
		if cut > 0 {
			r = ahead[cut-1]
		}
		if behind := holdRun(t, s, r, l[cut:]); !slices.Equal(slices.Concat(ahead, behind), list) {
			t.Fatal("cut", cut, heal, r)
		}
	}
}
