package gate

import (
	"math"
	"math/rand/v2"
	"slices"
	"testing"

	"stopline/api"
	"stopline/safe"
	"stopline/site"
)

// lightsOf reads one tick's aspects by their letters.
func lightsOf(text string) []uint8 {
	by := map[rune]uint8{'D': api.Dark, 'R': api.Red, 'G': api.Green, 'Y': api.Yellow, 'F': api.Flash, 'x': 5, 'z': 255}
	list := []uint8{}
	for _, r := range text {
		list = append(list, by[r])
	}
	return list
}

func traceOf(ticks ...string) [][]uint8 {
	list := [][]uint8{}
	for _, text := range ticks {
		list = append(list, lightsOf(text))
	}
	return list
}

// stands is a standing of groups that have shown their aspects for so long, and were green so many ticks ago.
func stands(aspects string, since, ended int) api.Safe {
	now := api.Safe{}
	for _, a := range lightsOf(aspects) {
		now.Groups = append(now.Groups, api.Seen{Aspect: a, Since: since, Ended: ended})
	}
	return now
}

func flashed(now api.Safe) api.Safe {
	now.Flashed = true
	return now
}

func starting(now api.Safe, start int) api.Safe {
	now.Start = start
	return now
}

// readied is how a site stands where all have been red for long.
func readied(s api.Site) api.Safe {
	now := api.Safe{}
	for range s.Groups {
		now.Groups = append(now.Groups, api.Seen{Aspect: api.Red, Since: 9, Ended: top})
	}
	return now
}

// The numbers that the document gives.
func TestGivenNumbers(t *testing.T) {
	if top != 1048576 || api.MaxScript != 4096 || api.ErrArg != 2 || api.ErrMany != 4 || api.ErrBad != 8 || api.ErrSite != 50 || api.ErrAsk != 90 {
		t.Error(top, api.MaxScript, int(api.ErrArg), int(api.ErrMany), int(api.ErrBad), int(api.ErrSite), int(api.ErrAsk))
	}
}

// The sites that all else here goes by may be.
func TestSitesOfTheTests(t *testing.T) {
	for i, s := range sites() {
		if e := site.Check(s); e != api.OK {
			t.Error(i, e)
		}
	}
	source := rand.New(rand.NewPCG(9, 1))
	for i := range 300 {
		if s := anySite(source); site.Check(s) != api.OK {
			t.Fatal(i, s)
		}
	}
}

// Every row of the chapter's examples.
func TestExamples(t *testing.T) {
	for i, c := range []struct{ asks, want [][]uint8 }{
		{traceOf("GG", "GG", "GG", "GG", "GG", "GG", "GG"), traceOf("RR", "RR", "GR", "GR", "GR", "GR", "GR")},
		{traceOf("GG", "GG", "GG", "RG", "RG", "RG", "RG", "RG"), traceOf("RR", "RR", "GR", "GR", "YR", "RR", "RG", "RG")},
		{traceOf("FF", "GG", "GG", "GG"), traceOf("FF", "RR", "RR", "GR")},
	} {
		if got, e := Run(two(), c.asks); e != api.OK || !sameTrace(got, c.want) {
			t.Error(i, got, e)
		}
	}
}

// badSites are ones of which something may not be, each of its own.
func badSites() map[string]api.Site {
	list := map[string]api.Site{"nothing": {}}
	broken := func(name string, change func(s *api.Site)) {
		s := two()
		change(&s)
		list[name] = s
	}
	broken("Id", func(s *api.Site) { s.Id = 65536 })
	broken("no groups", func(s *api.Site) { s.Groups = nil })
	broken("too many groups", func(s *api.Site) { s.Groups = alike(17, 2, 1) })
	broken("Kind", func(s *api.Site) { s.Groups[1].Kind = 3 })
	broken("Min", func(s *api.Site) { s.Groups[0].Min = 0 })
	broken("Yellow", func(s *api.Site) { s.Groups[1].Yellow = 0 })
	broken("no Apart", func(s *api.Site) { s.Apart = nil })
	broken("few Apart", func(s *api.Site) { s.Apart = s.Apart[:1] })
	broken("itself", func(s *api.Site) { s.Apart[0] = 3 })
	broken("one way", func(s *api.Site) { s.Apart[1] = 0 })
	broken("no such group", func(s *api.Site) { s.Apart[0] = 1 << 31 })
	broken("no Between", func(s *api.Site) { s.Between = nil })
	broken("few Between", func(s *api.Site) { s.Between = s.Between[:1] })
	broken("short Between", func(s *api.Site) { s.Between[1] = nil })
	broken("Between 0", func(s *api.Site) { s.Between[0][1] = 0 })
	broken("Between above", func(s *api.Site) { s.Between[0][1] = top + 1 })
	broken("Between itself", func(s *api.Site) { s.Between[0][0] = 9 })
	broken("no phases", func(s *api.Site) { s.Phases = nil })
	broken("both groups", func(s *api.Site) { s.Phases[0].Groups = 3 })
	broken("unserved", func(s *api.Site) { s.Phases[0].Groups = 2 })
	broken("Max", func(s *api.Site) { s.Phases[0].Max = 1 })
	broken("eyes", func(s *api.Site) { s.Eyes = make([]api.Eye, 1) })
	broken("Watch", func(s *api.Site) { s.Watch = 0 })
	broken("Feed", func(s *api.Site) { s.Feed = math.MaxInt })
	broken("Heal", func(s *api.Site) { s.Heal = math.MinInt })
	broken("Low", func(s *api.Site) { s.Low = 7 })
	broken("High", func(s *api.Site) { s.High = s.Low - 1 })
	broken("plan", func(s *api.Site) { s.Plans = make([]api.Plan, 1) })
	return list
}

// P9.1 to P9.3: a site that may not be is told ahead of all else, and nothing is told beside it.
func TestBadSites(t *testing.T) {
	for name, s := range badSites() {
		want := site.Check(s)
		if want != api.ErrSite {
			t.Error(name, "may be")
		}
		for _, now := range []api.Safe{{}, stands("RR", 1, top), stands("GG", 1, 0), flashed(stands("RR", 1, 0)), {Start: -1, Flashed: true}} {
			for _, asks := range [][]uint8{nil, lightsOf("R"), lightsOf("RR"), lightsOf("FF"), lightsOf("GG"), lightsOf("GGG")} {
				if lights, e := Admit(s, now, asks); e != want || len(lights) != 0 {
					t.Error(name, "Admit", lights, e)
				}
			}
			for _, group := range []int{math.MinInt, -1, 0, 1, 2, math.MaxInt} {
				if open, e := Open(s, now, group); e != want || open {
					t.Error(name, "Open", open, e)
				}
			}
		}
		for _, asks := range [][][]uint8{nil, {}, traceOf("RR"), traceOf("G"), traceOf("FF", "GG"), make([][]uint8, 4096), make([][]uint8, 4097)} {
			if trace, e := Run(s, asks); e != want || len(trace) != 0 {
				t.Error(name, "Run", trace, e)
			}
		}
	}
}

// P9.1, P9.2: which standings go on; one that does not is told ahead of what is asked and of the group.
func TestStandingsThatGoOn(t *testing.T) {
	long := make([]api.Seen, 1000)
	for i, c := range []struct {
		s    api.Site
		now  api.Safe
		goes bool
	}{
		{two(), stands("RR", 1, top), true}, {two(), stands("GR", 1, 0), true}, {two(), stands("RG", 1, 0), true}, {two(), stands("YR", 1, 1), true}, {two(), stands("RY", 1, 1), true},
		// Those that may not be.
		{two(), api.Safe{}, false}, {two(), api.Safe{Groups: []api.Seen{}}, false}, {two(), api.Safe{Groups: long}, false}, {two(), flashed(stands("", 1, 1)), false},
		{two(), stands("R", 1, top), false}, {two(), stands("RRR", 1, top), false}, {two(), flashed(stands("F", 1, top)), false}, {two(), flashed(stands("FFF", 1, top)), false},
		{two(), stands("GG", 1, 0), false}, {two(), stands("GY", 1, 0), false}, {two(), stands("YG", 1, 0), false}, {two(), stands("YY", 1, 0), false}, {two(), flashed(stands("GG", 1, 0)), false},
		{two(), starting(stands("RR", 1, top), math.MinInt), false}, {two(), starting(stands("RR", 1, top), -1), false}, {two(), starting(stands("RR", 1, top), top+1), false}, {two(), starting(stands("RR", 1, top), math.MaxInt), false},
		{two(), flashed(starting(stands("FF", 1, 9), -1)), false}, {two(), flashed(starting(stands("FF", 1, 9), top+1)), false},
		// Flashed: all are Flash, whatever Start is.
		{two(), flashed(stands("FF", 1, 9)), true}, {two(), flashed(starting(stands("FF", 1, 9), 1)), true}, {two(), flashed(starting(stands("FF", 1, 9), 2)), true}, {two(), flashed(starting(stands("FF", 1, 9), top)), true},
		{two(), flashed(stands("RR", 1, 9)), false}, {two(), flashed(stands("FR", 1, 9)), false}, {two(), flashed(stands("RF", 1, 9)), false}, {two(), flashed(stands("GR", 1, 9)), false}, {two(), flashed(stands("RY", 1, 9)), false}, {two(), flashed(stands("DR", 1, 9)), false}, {two(), flashed(stands("Rz", 1, 9)), false},
		{two(), flashed(starting(stands("RR", 1, 9), 2)), false}, {free(), flashed(stands("FG", 1, 9)), false}, {free(), flashed(stands("YF", 1, 9)), false}, {free(), flashed(stands("GG", 1, 9)), false}, {free(), flashed(stands("DF", 1, 9)), false}, {free(), flashed(stands("Fx", 1, 9)), false},
		// Not Flashed: none is Flash, or none at all.
		{two(), stands("FF", 1, 9), false}, {two(), stands("FR", 1, 9), false}, {two(), stands("RF", 1, 9), false}, {two(), stands("DR", 1, 9), false}, {two(), stands("RD", 1, 9), false}, {two(), stands("xR", 1, 9), false}, {two(), stands("Rz", 1, 9), false},
		{two(), starting(stands("FF", 1, 9), 2), false}, {free(), stands("GF", 1, 9), false}, {free(), stands("FY", 1, 9), false}, {free(), stands("FF", 1, 9), false}, {free(), stands("DG", 1, 9), false}, {free(), stands("Gx", 1, 9), false},
		{free(), stands("GG", 1, 0), true}, {free(), stands("GY", 1, 0), true}, {free(), stands("YY", 1, 0), true}, {free(), stands("RY", 1, 0), true},
		// Start above 0: all are Red.
		{two(), starting(stands("RR", 1, top), 1), true}, {two(), starting(stands("RR", 1, top), 3), true}, {two(), starting(stands("RR", 1, top), top), true},
		{two(), starting(stands("GR", 1, 0), 1), false}, {two(), starting(stands("RG", 1, 0), 1), false}, {two(), starting(stands("YR", 1, 1), 1), false}, {two(), starting(stands("RY", 1, 1), top), false}, {two(), starting(stands("RD", 1, 1), 1), false}, {two(), starting(stands("FR", 1, 1), 1), false},
		{free(), starting(stands("GR", 1, 1), 1), false}, {free(), starting(stands("RR", 1, 1), 1), true},
		{alone(), stands("R", 1, 0), true}, {alone(), stands("Y", 1, 0), true}, {alone(), stands("F", 1, 0), false}, {alone(), flashed(stands("F", 1, 0)), true}, {alone(), flashed(stands("R", 1, 0)), false}, {alone(), stands("z", 1, 0), false}, {alone(), stands("", 1, 0), false},
		{three(), stands("GRG", 1, 0), true}, {three(), stands("RGR", 1, 0), true}, {three(), stands("YRG", 1, 0), true}, {three(), stands("GGR", 1, 0), false}, {three(), stands("RGG", 1, 0), false}, {three(), stands("FRF", 1, 0), false}, {three(), flashed(stands("FRF", 1, 0)), false}, {three(), flashed(stands("FFR", 1, 0)), false}, {three(), flashed(stands("FFF", 1, 0)), true},
	} {
		if c.goes != slowGoesOn(c.s, c.now) {
			t.Fatal("the slow reading tells otherwise", i, c.now)
		}
		groups := len(c.s.Groups)
		for _, asks := range [][]uint8{nil, {}, make([]uint8, groups-1), make([]uint8, groups), all(c.s, api.Flash), all(c.s, api.Green), make([]uint8, groups+1)} {
			want := api.OK
			switch {
			case !c.goes:
				want = api.ErrBad
			case len(asks) != groups:
				want = api.ErrAsk
			}
			lights, e := Admit(c.s, c.now, asks)
			if e != want || e != api.OK && len(lights) != 0 || e == api.OK && len(lights) != groups {
				t.Error(i, c.now, asks, lights, e)
			}
		}
		for _, group := range []int{math.MinInt, -1, 0, groups - 1, groups, math.MaxInt} {
			want := api.OK
			switch {
			case !c.goes:
				want = api.ErrBad
			case group < 0 || group >= groups:
				want = api.ErrArg
			}
			if open, e := Open(c.s, c.now, group); e != want || e != api.OK && open {
				t.Error(i, c.now, group, open, e)
			}
		}
	}
}

// P9.1: not as many are asked as there are groups.
func TestAsksThatAreNotAsMany(t *testing.T) {
	for i, s := range sites() {
		for _, now := range []api.Safe{readied(s), starting(readied(s), 1)} {
			for n := range 40 {
				for _, aspect := range []uint8{api.Dark, api.Red, api.Green, api.Flash} {
					lights, e := Admit(s, now, slices.Repeat([]uint8{aspect}, n))
					if n != len(s.Groups) && (e != api.ErrAsk || len(lights) != 0) || n == len(s.Groups) && e != api.OK {
						t.Error(i, n, lights, e)
					}
				}
			}
			for _, asks := range [][]uint8{nil, {}, make([]uint8, 100000)} {
				if lights, e := Admit(s, now, asks); e != api.ErrAsk || len(lights) != 0 {
					t.Error(i, len(asks), lights, e)
				}
			}
		}
	}
}

// admitCase is what is asked behind a standing, and what is let through.
type admitCase struct {
	now        api.Safe
	asks, want string
}

func holdAdmits(t *testing.T, s api.Site, list []admitCase) {
	t.Helper()
	for i, c := range list {
		lights, e := Admit(s, c.now, lightsOf(c.asks))
		if e != api.OK || !slices.Equal(lights, lightsOf(c.want)) {
			t.Errorf("%d: %v, %s: %v, %d, not %s", i, c.now, c.asks, lights, e, c.want)
		}
	}
}

// P9.1: flash of all is let through at any time; of some it is no more than red is.
func TestFlash(t *testing.T) {
	for _, now := range []api.Safe{stands("RR", 1, 0), stands("GR", 1, 0), stands("RG", 9, 0), stands("YR", 1, 1), stands("RY", 1, 1), starting(stands("RR", 1, 1), 2), starting(stands("RR", 1, 1), top), flashed(stands("FF", 1, 1)), flashed(starting(stands("FF", 1, 1), 2))} {
		holdAdmits(t, two(), []admitCase{{now, "FF", "FF"}})
	}
	holdAdmits(t, two(), []admitCase{
		{stands("RR", 9, 9), "FR", "RR"}, {stands("RR", 9, 9), "RF", "RR"}, {stands("RR", 9, 9), "FG", "RG"}, {stands("RR", 9, 9), "GF", "GR"}, {stands("RR", 9, 9), "FD", "RR"},
		{stands("GR", 1, 0), "FR", "GR"}, {stands("GR", 2, 0), "FR", "YR"}, {stands("YR", 1, 1), "FR", "RR"}, {stands("GR", 2, 0), "FG", "YR"}, {stands("GR", 1, 0), "GF", "GR"},
		{flashed(stands("FF", 9, 9)), "FR", "RR"}, {flashed(stands("FF", 9, 9)), "GF", "RR"}, {starting(stands("RR", 9, 9), 1), "FG", "RR"},
	})
	for i, s := range sites() {
		for n := range s.Groups {
			asks := all(s, api.Flash)
			asks[n] = api.Yellow
			lights, e := Admit(s, readied(s), asks)
			if e != api.OK || !slices.Equal(lights, all(s, api.Red)) {
				t.Error(i, n, lights, e)
			}
		}
	}
}

// P9.1: behind flash, and while the start lasts, all are red, whatever else is asked.
func TestRedAtFirst(t *testing.T) {
	for _, asks := range []string{"RR", "GR", "RG", "GG", "YY", "DD", "zx", "FR", "GF"} {
		holdAdmits(t, two(), []admitCase{
			{starting(stands("RR", 1, top), 1), asks, "RR"}, {starting(stands("RR", 1, top), 2), asks, "RR"}, {starting(stands("RR", top, top), top), asks, "RR"},
			{flashed(stands("FF", 1, top)), asks, "RR"}, {flashed(starting(stands("FF", top, top), 2)), asks, "RR"}, {flashed(starting(stands("FF", 1, top), top)), asks, "RR"},
		})
		holdAdmits(t, free(), []admitCase{{starting(stands("RR", 1, top), 1), asks, "RR"}, {flashed(stands("FF", 1, top)), asks, "RR"}})
	}
	holdAdmits(t, two(), []admitCase{{stands("RR", 1, top), "GR", "GR"}, {stands("RR", 1, top), "RG", "RG"}})
}

// P9.1: what is not red goes by itself: green is held for its Min, yellow for its Yellow, whatever is asked of it and of the others.
func TestGroupsThatAreNotRed(t *testing.T) {
	for _, other := range "RGYFDz" {
		for _, ask := range "RYFDxz" {
			asks := string(ask) + string(other)
			if asks == "FF" {
				continue
			}
			for since, want := range map[int]string{0: "GR", 1: "GR", 3: "GR", 4: "YR", 5: "YR", top: "YR"} {
				holdAdmits(t, slow(), []admitCase{{stands("GR", since, 0), asks, want}})
			}
		}
		for _, since := range []int{0, 1, 3, 4, 5, top} {
			holdAdmits(t, slow(), []admitCase{{stands("GR", since, 0), "G" + string(other), "GR"}})
		}
		for _, ask := range "RGYDxz" {
			asks := string(other) + string(ask)
			for since, want := range map[int]string{0: "RY", 1: "RY", 2: "RR", 3: "RR", top: "RR"} {
				now := stands("RY", since, 1)
				if other == 'G' {
					now.Groups[1].Ended = 0 // so that the first one is held red in any case
				}
				holdAdmits(t, slow(), []admitCase{{now, asks, want}})
			}
		}
	}
	// What is not apart goes on side by side.
	holdAdmits(t, free(), []admitCase{
		{stands("GG", 1, 0), "RR", "GG"}, {stands("GG", 2, 0), "RG", "YG"}, {stands("GG", 2, 0), "GR", "GY"}, {stands("GY", 2, 0), "RG", "YR"}, {stands("YG", 1, 0), "GG", "RG"}, {stands("YY", 1, 0), "GG", "RR"},
		{stands("RG", 1, 0), "GR", "GG"}, {stands("YR", 1, 0), "GG", "RG"}, {stands("RR", 1, 0), "GG", "GG"}, {stands("RR", 1, 0), "YG", "RG"},
	})
}

// P9.1: red ones turn green one after another, as those that are apart let them, ahead of them and behind them.
func TestGroupsThatAreRed(t *testing.T) {
	// What is asked of a red group and is not Green leaves it red.
	for _, ask := range "RYFDxz" {
		holdAdmits(t, two(), []admitCase{{stands("RR", 9, 9), string(ask) + "R", "RR"}, {stands("RR", 9, 9), "R" + string(ask), "RR"}, {stands("RR", 9, 9), "G" + string(ask), "GR"}, {stands("RR", 9, 9), string(ask) + "G", "RG"}})
	}
	holdAdmits(t, two(), []admitCase{
		// Both: the first one.
		{stands("RR", 9, 9), "GG", "GR"},
		// One that is apart stays green or turns yellow in this tick.
		{stands("GR", 9, 9), "GG", "GR"}, {stands("GR", 9, 9), "RG", "YR"}, {stands("GR", 1, 9), "RG", "GR"}, {stands("RG", 9, 9), "GG", "RG"}, {stands("RG", 9, 9), "GR", "RY"}, {stands("RG", 1, 9), "GR", "RG"},
		// One that is apart stays yellow, or turns red in this tick.
		{stands("YR", 0, 9), "RG", "YR"}, {stands("YR", 1, 9), "RG", "RG"}, {stands("YR", 1, 1), "RG", "RR"}, {stands("RY", 0, 9), "GR", "RY"}, {stands("RY", 1, 9), "GR", "GR"}, {stands("RY", 1, 1), "GR", "RR"},
		// Of itself neither Since nor Ended is asked.
		{api.Safe{Groups: []api.Seen{{Aspect: api.Red, Since: 0, Ended: 0}, {Aspect: api.Red, Since: 0, Ended: 2}}}, "GR", "GR"},
		{api.Safe{Groups: []api.Seen{{Aspect: api.Red, Since: 0, Ended: 2}, {Aspect: api.Red, Since: 0, Ended: 0}}}, "RG", "RG"},
	})
	holdAdmits(t, three(), []admitCase{
		{stands("RRR", 9, 9), "GGG", "GRG"}, {stands("RRR", 9, 9), "RGG", "RGR"}, {stands("RRR", 9, 9), "GGR", "GRR"}, {stands("RRR", 9, 9), "RGR", "RGR"}, {stands("RRR", 9, 9), "GRG", "GRG"},
		// The second one is barred by one behind it that is not red.
		{stands("RRG", 9, 9), "RGG", "RRG"}, {stands("RRG", 9, 9), "RGR", "RRY"}, {stands("RRY", 3, 9), "RGR", "RGR"}, {stands("RRY", 2, 9), "RGR", "RRY"}, {stands("GRR", 9, 9), "GGG", "GRG"},
		// One that was held red bars nobody.
		{stands("RRG", 9, 9), "RGG", "RRG"}, {stands("RRG", 9, 9), "GGG", "GRG"}, {stands("RGR", 9, 9), "GGG", "RGR"}, {stands("RGR", 9, 9), "GRG", "RYR"}, {stands("RYR", 2, 9), "GRG", "GRG"}, {stands("RYR", 2, 9), "GGG", "GRG"}, {stands("RYR", 2, 2), "GGG", "GRR"},
	})
	holdAdmits(t, ring(), []admitCase{
		{stands("RRR", 9, 9), "GGG", "GRR"}, {stands("RRR", 9, 9), "RGG", "RGR"}, {stands("RRR", 9, 9), "RRG", "RRG"},
		// The first one is asked and held: the next one has its turn.
		{api.Safe{Groups: []api.Seen{{Aspect: api.Red, Ended: 9}, {Aspect: api.Red, Ended: 1}, {Aspect: api.Red, Ended: 3}}}, "GGG", "RGR"},
		{api.Safe{Groups: []api.Seen{{Aspect: api.Red, Ended: 9}, {Aspect: api.Red, Ended: 1}, {Aspect: api.Red, Ended: 2}}}, "GGG", "RRG"},
		{api.Safe{Groups: []api.Seen{{Aspect: api.Red, Ended: 0}, {Aspect: api.Red, Ended: 1}, {Aspect: api.Red, Ended: 2}}}, "GGG", "RRR"},
	})
}

// P9.1: Ended one below Between, at it, and one above it, of either group as the first, red or yellow that ends; the other way round tells nothing.
func TestBetweenAtItsEdges(t *testing.T) {
	for i, s := range []api.Site{two(), slow(), near(), three(), ring(), far(), crowded()} {
		for _, p := range apartPairs(s) {
			first, second := p[0], p[1]
			n := s.Between[first][second]
			for _, aspect := range []uint8{api.Red, api.Yellow} {
				now := readied(s)
				now.Groups[first] = api.Seen{Aspect: aspect, Since: s.Groups[first].Yellow}
				now.Groups[second].Ended = 0 // its own green has ended just now: that is not asked
				asks, green := all(s, api.Red), all(s, api.Red)
				asks[second], green[second] = api.Green, api.Green
				for ended, want := range map[int][]uint8{math.MinInt: all(s, api.Red), -1: all(s, api.Red), 0: all(s, api.Red), n - 1: all(s, api.Red), n: green, n + 1: green, math.MaxInt: green} {
					now.Groups[first].Ended = ended
					if lights, e := Admit(s, now, asks); e != api.OK || !slices.Equal(lights, want) {
						t.Error(i, p, aspect, ended, lights, e)
					}
					if open, e := Open(s, now, second); e != api.OK || open != (want[second] == api.Green) {
						t.Error(i, p, aspect, ended, open, e)
					}
				}
			}
		}
	}
}

// P9.1: each two of the greatest site, in both orders: the one that is not red bars the other one, or it does not, if they are not apart.
func TestEachTwo(t *testing.T) {
	s := crowded()
	for a := range s.Groups {
		for b := range s.Groups {
			if a == b {
				continue
			}
			asks, both := all(s, api.Red), all(s, api.Red)
			asks[a], asks[b] = api.Green, api.Green
			both[min(a, b)] = api.Green
			if !slowApart(s, a, b) {
				both[max(a, b)] = api.Green
			}
			if lights, e := Admit(s, readied(s), asks); e != api.OK || !slices.Equal(lights, both) {
				t.Error("both", a, b, lights, e)
			}
			now := readied(s)
			now.Groups[a] = api.Seen{Aspect: api.Green, Since: 1, Ended: top}
			one := all(s, api.Red)
			one[a] = api.Green
			if !slowApart(s, a, b) {
				one[b] = api.Green
			}
			if lights, e := Admit(s, now, asks); e != api.OK || !slices.Equal(lights, one) {
				t.Error("one", a, b, lights, e)
			}
		}
	}
}

// hold holds Admit and Open against the chapter's words, and what is let through against package safe.
func hold(t *testing.T, s api.Site, now api.Safe, asks []uint8) []uint8 {
	t.Helper()
	lights, e := Admit(s, now, asks)
	if !slowGoesOn(s, now) {
		if e != api.ErrBad || len(lights) != 0 {
			t.Fatalf("Admit(%v, %v): %v, %d", now, asks, lights, e)
		}
		return nil
	}
	if want := slowLet(s, now, asks); e != api.OK || !slices.Equal(lights, want) {
		t.Fatalf("Admit(%v, %v): %v, %d, not %v", now, asks, lights, e, want)
	}
	if want := greedy(t, s, now, asks); !slices.Equal(lights, want) {
		t.Fatalf("Admit(%v, %v): %v, not %v", now, asks, lights, want)
	}
	next, fault, e := safe.Next(s, now, lights)
	if fault != api.FaultNone || e != api.OK || !slowGoesOn(s, next) {
		t.Fatalf("Admit(%v, %v): %v has fault %d, %d, or %v does not go on", now, asks, lights, fault, e, next)
	}
	if _, fault, _ := safe.Next(s, now, asks); fault == api.FaultNone && !slices.Equal(lights, asks) {
		t.Fatalf("Admit(%v, %v): %v, though nothing is wrong with what is asked", now, asks, lights)
	}
	return lights
}

// P9.1, W8: counts below 0, at it, at MaxTicks and above it, and the least and the greatest int.
func TestCountsOfGroups(t *testing.T) {
	counts := []int{math.MinInt, math.MinInt + 1, -top, -1, 0, 1, 2, 3, top - 1, top, top + 1, math.MaxInt - 1, math.MaxInt}
	for _, s := range []api.Site{two(), slow(), free(), far()} {
		for _, since := range counts {
			for _, ended := range counts {
				for _, aspects := range []string{"RR", "GR", "RG", "YR", "RY", "FF"} {
					now := stands((aspects + aspects)[:len(s.Groups)], since, ended)
					now.Flashed = aspects == "FF"
					if len(s.Groups) > 2 && !now.Flashed {
						now.Groups[2].Aspect = api.Red
					}
					for _, asks := range []string{"RRR", "GRR", "RGG", "YRG", "RYR", "GGG", "FFF", "RFR", "RzD"} {
						hold(t, s, now, lightsOf(asks[:len(s.Groups)]))
					}
				}
			}
		}
	}
	holdAdmits(t, two(), []admitCase{
		{stands("RR", 0, math.MaxInt), "RG", "RG"}, {stands("RR", 0, math.MinInt), "RG", "RR"}, {stands("RR", 0, top+1), "GG", "GR"}, {stands("RR", 0, -1), "GG", "RR"},
		{stands("GR", math.MaxInt, 0), "RR", "YR"}, {stands("GR", math.MinInt, 0), "RR", "GR"}, {stands("GR", top+1, 0), "RR", "YR"}, {stands("GR", -1, 0), "RR", "GR"},
		{stands("YR", math.MaxInt, 0), "RR", "RR"}, {stands("YR", math.MinInt, 0), "RR", "YR"},
	})
	// A Min and a Yellow of MaxTicks are reached where a count is stopped.
	long := siteOf(alike(1, top, top), [][]int{{0}})
	long.Phases[0].Max = top
	if site.Check(long) != api.OK {
		t.Fatal("may not be")
	}
	holdAdmits(t, long, []admitCase{
		{stands("G", top-1, 0), "R", "G"}, {stands("G", top, 0), "R", "Y"}, {stands("G", math.MaxInt, 0), "R", "Y"},
		{stands("Y", top-1, 0), "R", "Y"}, {stands("Y", top, 0), "R", "R"}, {stands("Y", math.MaxInt, 0), "R", "R"},
	})
}

// P9.2: no such group; and which groups are open.
func TestOpen(t *testing.T) {
	for i, s := range sites() {
		for group := range s.Groups {
			for k, c := range []struct {
				now  api.Safe
				want bool
			}{
				{readied(s), true}, {starting(readied(s), 1), false}, {starting(readied(s), top), false},
				{flashed(stands("FFFFFFFFFFFFFFFF"[:len(s.Groups)], 1, top)), false},
			} {
				if open, e := Open(s, c.now, group); open != c.want || e != api.OK {
					t.Error(i, group, k, open, e)
				}
			}
		}
		for _, group := range []int{math.MinInt, -1 << 32, -17, -1, len(s.Groups), len(s.Groups) + 1, 32, 64, 1 << 32, math.MaxInt} {
			for _, now := range []api.Safe{readied(s), starting(readied(s), 1)} {
				if open, e := Open(s, now, group); open || e != api.ErrArg {
					t.Error(i, group, open, e)
				}
			}
		}
	}
	for i, c := range []struct {
		now  api.Safe
		want [2]bool
	}{
		{stands("GR", 1, 0), [2]bool{true, false}}, {stands("GR", 9, 0), [2]bool{true, false}}, {stands("RG", 9, 9), [2]bool{false, true}},
		{stands("YR", 0, 9), [2]bool{false, false}}, {stands("YR", 1, 9), [2]bool{false, true}}, {stands("RY", 1, 9), [2]bool{true, false}}, {stands("RY", 1, 1), [2]bool{false, false}},
		{stands("RR", 1, 1), [2]bool{false, false}}, {stands("RR", 1, 2), [2]bool{true, true}},
	} {
		for group, want := range c.want {
			if open, e := Open(two(), c.now, group); open != want || e != api.OK {
				t.Error(i, group, open, e)
			}
		}
	}
}

// holdOpens holds Open of each group against Admit.
func holdOpens(t *testing.T, s api.Site, now api.Safe) {
	t.Helper()
	for group := range s.Groups {
		asks := all(s, api.Red)
		asks[group] = api.Green
		lights := hold(t, s, now, asks)
		want := api.OK
		if lights == nil {
			want = api.ErrBad
		}
		open, e := Open(s, now, group)
		if e != want || open != (lights != nil && lights[group] == api.Green) {
			t.Fatalf("Open(%v, %d): %v, %d; Admit: %v", now, group, open, e, lights)
		}
	}
}

// P9.1, P9.2, P9.5, R1: any standings of any sites, with any asked.
func TestAnyStandings(t *testing.T) {
	source := rand.New(rand.NewPCG(9, 2))
	number := func() int { return int(source.Uint64()) >> source.IntN(64) }
	goes, greens, held := 0, 0, 0
	for range 300 {
		s := anySite(source)
		for turn := range 100 {
			now := api.Safe{Flashed: source.IntN(5) == 0}
			if source.IntN(6) == 0 {
				now.Start = number()
			}
			likely := []uint8{api.Red, api.Red, api.Green, api.Yellow, uint8(source.IntN(256))}
			if now.Flashed && source.IntN(3) > 0 {
				likely = []uint8{api.Flash}
			}
			asks := make([]uint8, len(s.Groups))
			for i := range asks {
				aspect := likely[0]
				if source.IntN(len(s.Groups)) == 0 {
					aspect = likely[source.IntN(len(likely))]
				}
				now.Groups = append(now.Groups, api.Seen{Aspect: aspect, Since: number(), Ended: number()})
				asks[i] = []uint8{api.Red, api.Green, api.Green, api.Green, api.Yellow, api.Flash, uint8(source.IntN(256))}[source.IntN(7)]
			}
			if turn%5 == 0 {
				holdOpens(t, s, now)
			}
			if lights := hold(t, s, now, asks); lights != nil {
				goes++
				greens += many(lights, api.Green)
				held += many(asks, api.Green) - many(lights, api.Green)
			}
			hold(t, s, now, all(s, api.Flash))
		}
	}
	if goes < 5000 || greens < 5000 || held < 5000 {
		t.Error("few", goes, greens, held)
	}
}

// P9.1, P9.2: every standing of two and of three groups near the edges, with every aspect asked of each.
func TestEveryStanding(t *testing.T) {
	for _, c := range []struct {
		s      api.Site
		counts []int
	}{{two(), []int{0, 1, 2, 3}}, {slow(), []int{0, 1, 2, 3, 4, 5}}, {free(), []int{0, 1, 2}}, {near(), []int{0, 1, 2}}, {ring(), []int{0, 1, 2}}, {three(), []int{1, 3}}} {
		var seens []api.Seen
		for _, aspect := range []uint8{api.Red, api.Green, api.Yellow, api.Flash} {
			for _, since := range c.counts {
				for _, ended := range c.counts {
					seens = append(seens, api.Seen{Aspect: aspect, Since: since, Ended: ended})
				}
			}
		}
		asked := lightsOf("RGYF")
		var visit func(groups []api.Seen, asks []uint8)
		visit = func(groups []api.Seen, asks []uint8) {
			switch {
			case len(groups) < len(c.s.Groups):
				for _, seen := range seens {
					if len(c.s.Groups) > 2 && seen.Aspect == api.Red && seen.Since > 1 {
						continue // of red Since is not asked
					}
					visit(append(slices.Clip(groups), seen), asks)
				}
			case len(asks) < len(groups):
				if len(asks) == 0 && !slowGoesOn(c.s, api.Safe{Groups: groups}) && !slowGoesOn(c.s, api.Safe{Groups: groups, Flashed: true}) {
					return
				}
				for _, a := range asked {
					visit(groups, append(slices.Clip(asks), a))
				}
			default:
				now := api.Safe{Groups: groups}
				now.Flashed = groups[0].Aspect == api.Flash
				if got, e := Admit(c.s, now, asks); e != api.OK || !slices.Equal(got, slowLet(c.s, now, asks)) {
					t.Fatalf("Admit(%v, %v): %v, %d", now, asks, got, e)
				}
			}
		}
		visit(nil, nil)
	}
}
