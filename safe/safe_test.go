package safe

import (
	"math"
	"math/rand/v2"
	"testing"

	"stopline/api"
	"stopline/site"
)

// lightsOf reads one tick's aspects by their letters.
func lightsOf(text string) []uint8 {
	by := map[rune]uint8{'D': api.Dark, 'R': api.Red, 'G': api.Green, 'Y': api.Yellow, 'F': api.Flash, 'x': 5, 'z': 255}
	list := []uint8{}
	for _, r := range text {
		list = append(list, by[r])
	}
	return list
}

func traceOf(ticks ...string) [][]uint8 {
	list := [][]uint8{}
	for _, text := range ticks {
		list = append(list, lightsOf(text))
	}
	return list
}

// stands is a standing of groups that have shown their aspects for so long, and were green so many ticks ago.
func stands(aspects string, since, ended int) api.Safe {
	now := api.Safe{}
	for _, a := range lightsOf(aspects) {
		now.Groups = append(now.Groups, api.Seen{Aspect: a, Since: since, Ended: ended})
	}
	return now
}

func flashed(now api.Safe) api.Safe {
	now.Flashed = true
	return now
}

func starting(now api.Safe, start int) api.Safe {
	now.Start = start
	return now
}

// The numbers that the document gives, and that no two aspects or faults are the same: all else here is told by their names.
func TestGivenNumbers(t *testing.T) {
	if top != 1048576 || api.MaxScript != 4096 || api.ErrMany != 4 || api.ErrBad != 8 || api.ErrSite != 50 {
		t.Error(top, api.MaxScript, int(api.ErrMany), int(api.ErrBad), int(api.ErrSite))
	}
	for _, names := range [][]uint8{
		{api.Dark, api.Red, api.Green, api.Yellow, api.Flash},
		{api.FaultNone, api.FaultCount, api.FaultAspect, api.FaultMeet, api.FaultBetween, api.FaultMin, api.FaultYellow, api.FaultFlash, api.FaultStart},
	} {
		seen := map[uint8]bool{}
		for _, n := range names {
			if seen[n] {
				t.Error(n, names)
			}
			seen[n] = true
		}
	}
}

// The sites that all else here goes by may be.
func TestSitesOfTheTests(t *testing.T) {
	for i, s := range sites() {
		if e := site.Check(s); e != api.OK {
			t.Error(i, e)
		}
	}
	source := rand.New(rand.NewPCG(8, 1))
	for i := range 300 {
		if s := anySite(source); site.Check(s) != api.OK {
			t.Fatal(i, s)
		}
	}
}

// Every row of the chapter's examples.
func TestExamples(t *testing.T) {
	for i, c := range []struct {
		trace [][]uint8
		at    int
		fault uint8
	}{
		{traceOf("RR", "RR", "GR", "GR", "YR", "RR", "RG"), -1, api.FaultNone},
		{traceOf("RR", "RR", "GR", "GR", "YR", "RG"), 5, api.FaultBetween},
		{traceOf("RR", "GR"), 1, api.FaultStart},
		{traceOf("RR", "RR", "GR", "FF", "GR"), 4, api.FaultStart},
		{traceOf("RR", "RR", "GG"), 2, api.FaultMeet},
	} {
		at, fault, e := Check(two(), c.trace)
		if at != c.at || fault != c.fault || e != api.OK {
			t.Errorf("example %d: %d, %d, %d", i, at, fault, e)
		}
	}
}

// P8.1: each group red, its green long ago, and red to come for as long as the greatest between.
func TestFirst(t *testing.T) {
	for i, c := range []struct {
		s             api.Site
		groups, start int
	}{
		{two(), 2, 2}, {uneven(), 2, 5}, {near(), 2, 1}, {free(), 2, 0}, {alone(), 1, 0}, {three(), 3, 6}, {far(), 3, top}, {crowded(), 16, 5},
	} {
		now, e := First(c.s)
		if e != api.OK || len(now.Groups) != c.groups || now.Start != c.start || now.Flashed {
			t.Error(i, now, e)
		}
		for k, g := range now.Groups {
			if g != (api.Seen{Aspect: api.Red, Since: 1, Ended: 1048576}) {
				t.Error(i, k, g)
			}
		}
	}
}

// P8.1: the greatest between, wherever it stands; without two that are apart 0.
func TestGreatest(t *testing.T) {
	for i, c := range []struct {
		s    api.Site
		want int
	}{
		{two(), 2}, {uneven(), 5}, {near(), 1}, {free(), 0}, {alone(), 0}, {three(), 6}, {far(), top}, {crowded(), 5},
	} {
		if n, e := Greatest(c.s); n != c.want || e != api.OK {
			t.Error(i, n, e)
		}
	}
	for _, p := range apartPairs(three()) {
		s := three()
		s.Between[p[0]][p[1]] = 77
		if n, e := Greatest(s); n != 77 || e != api.OK {
			t.Error(p, n, e)
		}
	}
	source := rand.New(rand.NewPCG(8, 2))
	for range 300 {
		s := anySite(source)
		now, e := First(s)
		if n, f := Greatest(s); n != slowGreatest(s) || e != api.OK || f != api.OK || !sameStanding(now, slowFirst(s)) {
			t.Fatal(s, n, e, f, now)
		}
	}
}

// badSites are ones of which something may not be, each of its own.
func badSites() map[string]api.Site {
	list := map[string]api.Site{"nothing": {}}
	broken := func(name string, change func(s *api.Site)) {
		s := two()
		change(&s)
		list[name] = s
	}
	broken("Id", func(s *api.Site) { s.Id = -1 })
	broken("no groups", func(s *api.Site) { s.Groups = nil })
	broken("too many groups", func(s *api.Site) { s.Groups = alike(17, 2, 1) })
	broken("Kind", func(s *api.Site) { s.Groups[1].Kind = 0 })
	broken("Min", func(s *api.Site) { s.Groups[0].Min = 0 })
	broken("Yellow", func(s *api.Site) { s.Groups[0].Yellow = top + 1 })
	broken("no Apart", func(s *api.Site) { s.Apart = nil })
	broken("few Apart", func(s *api.Site) { s.Apart = s.Apart[:1] })
	broken("itself", func(s *api.Site) { s.Apart[0] = 3 })
	broken("one way", func(s *api.Site) { s.Apart[1] = 0 })
	broken("no such group", func(s *api.Site) { s.Apart[0] = 1 << 31 })
	broken("no Between", func(s *api.Site) { s.Between = nil })
	broken("few Between", func(s *api.Site) { s.Between = s.Between[:1] })
	broken("short Between", func(s *api.Site) { s.Between[1] = nil })
	broken("Between 0", func(s *api.Site) { s.Between[0][1] = 0 })
	broken("Between above", func(s *api.Site) { s.Between[0][1] = top + 1 })
	broken("Between itself", func(s *api.Site) { s.Between[0][0] = 9 })
	broken("no phases", func(s *api.Site) { s.Phases = nil })
	broken("both groups", func(s *api.Site) { s.Phases[0].Groups = 3 })
	broken("unserved", func(s *api.Site) { s.Phases[0].Groups = 2 })
	broken("Max", func(s *api.Site) { s.Phases[0].Max = 1 })
	broken("eyes", func(s *api.Site) { s.Eyes = make([]api.Eye, 1) })
	broken("Watch", func(s *api.Site) { s.Watch = 0 })
	broken("Feed", func(s *api.Site) { s.Feed = math.MaxInt })
	broken("Heal", func(s *api.Site) { s.Heal = math.MinInt })
	broken("Low", func(s *api.Site) { s.Low = 7 })
	broken("High", func(s *api.Site) { s.High = s.Low - 1 })
	broken("plan", func(s *api.Site) { s.Plans = make([]api.Plan, 1) })
	return list
}

// P8.1 to P8.3: a site that may not be is told ahead of all else, and nothing is told beside it.
func TestBadSites(t *testing.T) {
	for name, s := range badSites() {
		want := site.Check(s)
		if want != api.ErrSite {
			t.Error(name, "may be")
		}
		if now, e := First(s); e != want || !isNoStanding(now) {
			t.Error(name, "First", now, e)
		}
		if n, e := Greatest(s); e != want || n != 0 {
			t.Error(name, "Greatest", n, e)
		}
		for _, now := range []api.Safe{{}, stands("RR", 1, top), stands("GG", 1, 0), {Start: -1, Flashed: true}} {
			for _, lights := range [][]uint8{nil, lightsOf("RR"), lightsOf("FF"), lightsOf("GG")} {
				if next, fault, e := Next(s, now, lights); e != want || fault != 0 || !isNoStanding(next) {
					t.Error(name, "Next", next, fault, e)
				}
			}
		}
		for _, trace := range [][][]uint8{nil, traceOf("RR"), traceOf("GG"), make([][]uint8, 4096), make([][]uint8, 4097)} {
			if at, fault, e := Check(s, trace); e != want || at != 0 || fault != 0 {
				t.Error(name, "Check", at, fault, e)
			}
		}
	}
}

// P8.2: which standings may be; one that may not be is told ahead of any lights' fault.
func TestStandingsThatMayBe(t *testing.T) {
	long := make([]api.Seen, 100)
	for i, c := range []struct {
		s   api.Site
		now api.Safe
		may bool
	}{
		{two(), stands("RR", 1, top), true},
		{two(), api.Safe{}, false},
		{two(), api.Safe{Groups: []api.Seen{}}, false},
		{two(), stands("R", 1, top), false}, {two(), stands("RRR", 1, top), false}, {two(), stands("F", 1, top), false}, {two(), stands("FFF", 1, top), false},
		{two(), api.Safe{Groups: long}, false},
		{two(), flashed(stands("", 1, 1)), false},
		{two(), starting(stands("RR", 1, top), math.MinInt), false}, {two(), starting(stands("RR", 1, top), -1), false},
		{two(), starting(stands("RR", 1, top), 0), true}, {two(), starting(stands("RR", 1, top), 1), true},
		{two(), starting(stands("RR", 1, top), 3), true}, // more than the greatest between
		{two(), starting(stands("RR", 1, top), top), true}, {two(), starting(stands("RR", 1, top), top+1), false}, {two(), starting(stands("RR", 1, top), math.MaxInt), false},
		{two(), starting(stands("FF", 1, 1), -1), false}, {two(), starting(stands("FF", 1, 1), top), true}, {two(), starting(stands("FF", 1, 1), top+1), false},
		{two(), flashed(starting(stands("FF", 1, 1), top+1)), false}, {two(), flashed(starting(stands("RR", 1, 1), -1)), false},
		{two(), stands("GR", 1, 0), true}, {two(), stands("RG", 1, 0), true}, {two(), stands("YR", 1, 1), true}, {two(), stands("RY", 1, 1), true},
		{two(), stands("GG", 1, 0), false}, {two(), stands("GY", 1, 0), false}, {two(), stands("YG", 1, 0), false}, {two(), stands("YY", 1, 0), false},
		{two(), flashed(stands("GG", 1, 0)), false}, {two(), flashed(starting(stands("GG", 1, 0), 2)), false}, // Flashed alone is not Flash
		{two(), stands("FF", 1, 9), true}, {two(), flashed(stands("FF", 1, 9)), true},
		{two(), stands("FR", 1, 9), true}, {two(), stands("RF", 1, 9), true}, // some flash, but one is red
		{two(), stands("FG", 1, 9), false}, {two(), stands("GF", 1, 9), false}, {two(), stands("YF", 1, 9), false}, {two(), stands("FD", 1, 9), false},
		{two(), stands("DR", 1, 9), true}, {two(), stands("Rx", 1, 9), true}, {two(), stands("Rz", 1, 9), true},
		{two(), stands("DD", 1, 9), false}, {two(), stands("Dx", 1, 9), false}, {two(), stands("zz", 1, 9), false}, {two(), stands("zG", 1, 9), false},
		{two(), flashed(stands("GR", 1, 0)), true}, {two(), flashed(stands("RR", 1, 0)), true},
		{free(), stands("GG", 1, 0), true}, {free(), stands("FG", 1, 0), true}, {free(), stands("zD", 1, 0), true}, {free(), stands("GGG", 1, 0), false},
		{alone(), stands("z", 1, 0), true}, {alone(), stands("F", 1, 0), true}, {alone(), stands("", 1, 0), false},
		{three(), stands("GRG", 1, 0), true}, {three(), stands("RGR", 1, 0), true}, {three(), stands("FRF", 1, 0), true}, {three(), stands("FFF", 1, 0), true},
		{three(), stands("GGR", 1, 0), false}, {three(), stands("RGG", 1, 0), false}, {three(), stands("FFR", 1, 0), false}, {three(), stands("FFG", 1, 0), false},
	} {
		for _, lights := range [][]uint8{nil, {}, lightsOf("R"), lightsOf("RR"), lightsOf("FF"), lightsOf("RF"), lightsOf("GG"), lightsOf("zz"), lightsOf("RRRR")} {
			next, fault, e := Next(c.s, c.now, lights)
			if !c.may && (e != api.ErrBad || fault != 0 || !isNoStanding(next)) || c.may && e != api.OK {
				t.Error(i, c.now, lights, next, fault, e)
			}
			if c.may != slowMayBe(c.s, c.now) {
				t.Fatal("the slow reading tells otherwise", i, c.now)
			}
		}
	}
}

// P8.2: each two of the greatest site, in both orders: both other than red may not be, neither as a standing nor as lights.
func TestEachTwo(t *testing.T) {
	s := crowded()
	for a := range s.Groups {
		for b := range s.Groups {
			if a == b {
				continue
			}
			stood, _ := First(s)
			stood.Start = 0
			red := cloneStanding(stood)
			stood.Groups[a] = api.Seen{Aspect: api.Green, Since: 2}
			one := cloneStanding(stood)
			stood.Groups[b] = api.Seen{Aspect: api.Yellow, Since: 1, Ended: 1}
			lights := make([]uint8, len(s.Groups))
			for i := range lights {
				lights[i] = api.Red
			}
			lights[a], lights[b] = api.Green, api.Green
			want, wantFault := api.OK, api.FaultNone
			if slowApart(s, a, b) {
				want, wantFault = api.ErrBad, api.FaultMeet
			}
			if _, _, e := Next(s, stood, lights); e != want {
				t.Error("standing", a, b, e)
			}
			for _, now := range []api.Safe{red, one} {
				if _, fault, e := Next(s, now, lights); e != api.OK || fault != wantFault {
					t.Error("lights", a, b, fault, e)
				}
			}
		}
	}
}

// faultCase is lights behind a standing, and the fault that is told.
type faultCase struct {
	now    api.Safe
	lights []uint8
	want   uint8
}

func holdFaults(t *testing.T, s api.Site, list []faultCase) {
	t.Helper()
	for i, c := range list {
		next, fault, e := Next(s, c.now, c.lights)
		if e != api.OK || fault != c.want {
			t.Errorf("%d: %v, %v: %d, %d, not %d", i, c.now, c.lights, fault, e, c.want)
		}
		if same := sameStanding(next, c.now); fault != api.FaultNone && !same {
			t.Errorf("%d: %v is not as it was: %v", i, c.now, next)
		}
	}
}

// P8.2: each fault of a tick's lights.
func TestEachFault(t *testing.T) {
	red := stands("RR", 5, top)
	holdFaults(t, two(), []faultCase{
		{red, nil, api.FaultCount}, {red, []uint8{}, api.FaultCount}, {red, lightsOf("R"), api.FaultCount}, {red, lightsOf("RRR"), api.FaultCount}, {red, make([]uint8, 1000), api.FaultCount},
		{red, lightsOf("RR"), api.FaultNone}, {red, lightsOf("GR"), api.FaultNone}, {red, lightsOf("RG"), api.FaultNone}, {red, lightsOf("FF"), api.FaultNone},
		{red, lightsOf("FR"), api.FaultFlash}, {red, lightsOf("RF"), api.FaultFlash},
		{starting(red, 1), lightsOf("RR"), api.FaultNone}, {starting(red, 1), lightsOf("GR"), api.FaultStart}, {starting(red, 1), lightsOf("RG"), api.FaultStart}, {starting(red, top), lightsOf("RY"), api.FaultStart},
		{starting(red, top), lightsOf("RR"), api.FaultNone}, {starting(red, top), lightsOf("FF"), api.FaultNone},
		{flashed(stands("FF", 1, 9)), lightsOf("RR"), api.FaultNone}, {flashed(stands("FF", 1, 9)), lightsOf("GR"), api.FaultStart}, {flashed(stands("FF", 1, 9)), lightsOf("RY"), api.FaultStart}, {flashed(stands("FF", 1, 9)), lightsOf("DR"), api.FaultStart},
		{red, lightsOf("YR"), api.FaultAspect}, {red, lightsOf("RY"), api.FaultAspect}, {red, lightsOf("DR"), api.FaultAspect}, {red, lightsOf("RD"), api.FaultAspect}, {red, lightsOf("Rx"), api.FaultAspect}, {red, lightsOf("zR"), api.FaultAspect},
		{stands("GR", 5, 0), lightsOf("RR"), api.FaultAspect}, {stands("RY", 1, 1), lightsOf("RG"), api.FaultAspect},
		{stands("DR", 5, 9), lightsOf("RR"), api.FaultAspect}, {stands("RF", 5, 9), lightsOf("RR"), api.FaultAspect}, {stands("FF", 5, 9), lightsOf("RR"), api.FaultAspect}, {stands("zR", 5, 9), lightsOf("zR"), api.FaultAspect},
		{stands("GR", 1, 0), lightsOf("YR"), api.FaultMin}, {stands("RG", 1, 0), lightsOf("RY"), api.FaultMin}, {stands("GR", 2, 0), lightsOf("YR"), api.FaultNone}, {stands("GR", 1, 0), lightsOf("GR"), api.FaultNone},
		{stands("YR", 1, 1), lightsOf("YR"), api.FaultYellow}, {stands("RY", 1, 1), lightsOf("RY"), api.FaultYellow}, {stands("YR", 1, 1), lightsOf("RR"), api.FaultNone}, {stands("YR", 0, 1), lightsOf("RR"), api.FaultYellow},
		{red, lightsOf("GG"), api.FaultMeet}, {stands("GR", 2, 9), lightsOf("GG"), api.FaultMeet}, {stands("RG", 2, 9), lightsOf("GG"), api.FaultMeet}, {stands("GR", 2, 9), lightsOf("YG"), api.FaultMeet},
		{stands("RR", 5, 1), lightsOf("GR"), api.FaultBetween}, {stands("RR", 5, 1), lightsOf("RG"), api.FaultBetween}, {stands("RR", 5, 2), lightsOf("GR"), api.FaultNone}, {stands("YR", 1, 1), lightsOf("RG"), api.FaultBetween},
		{stands("RR", 5, 1), lightsOf("RR"), api.FaultNone},
	})
	// Green that stays so does not begin, however short ago the other one is told to have ended.
	holdFaults(t, two(), []faultCase{{stands("GR", 5, 1), lightsOf("GR"), api.FaultNone}, {stands("GR", 5, 0), lightsOf("YR"), api.FaultNone}})
	// What is not apart may meet, and has nothing between.
	holdFaults(t, free(), []faultCase{{stands("RR", 5, 0), lightsOf("GG"), api.FaultNone}, {stands("GY", 5, 0), lightsOf("YR"), api.FaultNone}})
	holdFaults(t, three(), []faultCase{{stands("RRR", 5, 9), lightsOf("GRG"), api.FaultNone}, {stands("RRR", 5, 9), lightsOf("GGR"), api.FaultMeet}, {stands("RRR", 5, 9), lightsOf("RGG"), api.FaultMeet}})
}

// P8.2: where two or more faults hold, the first one of the chapter's is told.
func TestWhichFaultIsTold(t *testing.T) {
	red, at := stands("RR", 5, 0), stands("GR", 1, 0)
	holdFaults(t, two(), []faultCase{
		{red, lightsOf("F"), api.FaultCount}, {red, lightsOf("FFF"), api.FaultCount}, {red, lightsOf("FRG"), api.FaultCount}, {starting(red, 2), lightsOf("G"), api.FaultCount}, {red, lightsOf("GGG"), api.FaultCount}, {flashed(red), nil, api.FaultCount},
		{starting(red, 2), lightsOf("FG"), api.FaultFlash}, {flashed(red), lightsOf("FR"), api.FaultFlash}, {red, lightsOf("FG"), api.FaultFlash}, {at, lightsOf("YF"), api.FaultFlash}, {at, lightsOf("FD"), api.FaultFlash},
		{starting(red, 2), lightsOf("GG"), api.FaultStart}, {starting(red, 2), lightsOf("YR"), api.FaultStart}, {starting(red, 2), lightsOf("Dz"), api.FaultStart}, {starting(at, 2), lightsOf("YR"), api.FaultStart}, {starting(at, 2), lightsOf("GR"), api.FaultStart}, {flashed(at), lightsOf("YR"), api.FaultStart}, {flashed(red), lightsOf("GG"), api.FaultStart}, {flashed(red), lightsOf("RG"), api.FaultStart},
		{starting(at, 2), lightsOf("RR"), api.FaultAspect}, {flashed(at), lightsOf("RR"), api.FaultNone}, {flashed(starting(at, 2)), lightsOf("RR"), api.FaultNone},
		{red, lightsOf("GY"), api.FaultAspect}, {red, lightsOf("YY"), api.FaultAspect}, {at, lightsOf("YG"), api.FaultMin}, {at, lightsOf("YY"), api.FaultMin}, {stands("YR", 1, 0), lightsOf("YG"), api.FaultYellow}, {stands("RY", 0, 0), lightsOf("GR"), api.FaultYellow},
		{red, lightsOf("GG"), api.FaultMeet}, {stands("GR", 2, 0), lightsOf("GG"), api.FaultMeet}, {stands("GR", 2, 0), lightsOf("YG"), api.FaultMeet},
	})
	// Of the groups the first one's, though a later one's stands ahead in the list of lamp.May.
	holdFaults(t, free(), []faultCase{
		{stands("GG", 1, 0), lightsOf("YR"), api.FaultMin}, {stands("GG", 1, 0), lightsOf("RY"), api.FaultAspect},
		{stands("YG", 1, 0), lightsOf("YY"), api.FaultYellow}, {stands("GY", 1, 0), lightsOf("YY"), api.FaultMin},
		{stands("YR", 1, 0), lightsOf("YY"), api.FaultYellow}, {stands("RY", 1, 0), lightsOf("YY"), api.FaultAspect},
		{stands("GR", 1, 0), lightsOf("Yz"), api.FaultMin}, {stands("RG", 1, 0), lightsOf("zY"), api.FaultAspect},
	})
	// Meeting of a later two is told ahead of too little between of the first two.
	holdFaults(t, three(), []faultCase{{stands("RRR", 5, 3), lightsOf("RGG"), api.FaultMeet}, {stands("RRR", 5, 3), lightsOf("RGR"), api.FaultBetween}})
}

// P8.2: what stands in a group beyond its bounds counts as those do; with a fault it stays as it was.
func TestCountsOfGroups(t *testing.T) {
	counts := []int{math.MinInt, math.MinInt + 1, -top, -1, 0, 1, 2, 3, top - 1, top, top + 1, math.MaxInt - 1, math.MaxInt}
	for _, s := range []api.Site{two(), uneven(), near(), free(), far()} {
		for _, since := range counts {
			for _, ended := range counts {
				for _, aspects := range []string{"RR", "GR", "RG", "YR", "RY", "FF", "FR", "DR"} {
					now := stands((aspects + "RR")[:len(s.Groups)], since, ended)
					for _, lights := range []string{"RR", "GR", "RG", "YR", "RY", "GG", "FF", "RF", "Rz"} {
						hold(t, s, now, lightsOf((lights + "RR")[:len(s.Groups)]))
						hold(t, s, flashed(now), lightsOf((lights + "RR")[:len(s.Groups)]))
					}
				}
			}
		}
	}
	now := stands("RR", math.MaxInt, math.MaxInt)
	next, fault, e := Next(two(), now, lightsOf("RG"))
	if fault != api.FaultNone || e != api.OK || next.Groups[0] != (api.Seen{Aspect: api.Red, Since: top, Ended: top}) || next.Groups[1] != (api.Seen{Aspect: api.Green, Since: 1}) {
		t.Error(next, fault, e)
	}
	next, fault, e = Next(two(), stands("RR", math.MinInt, math.MinInt), lightsOf("RR"))
	if fault != api.FaultNone || e != api.OK || next.Groups[0] != (api.Seen{Aspect: api.Red, Since: 1, Ended: 1}) {
		t.Error(next, fault, e)
	}
	if _, fault, _ := Next(two(), stands("RR", 5, math.MinInt), lightsOf("RG")); fault != api.FaultBetween {
		t.Error(fault)
	}
}

// hold holds Next against the chapter's words.
func hold(t *testing.T, s api.Site, now api.Safe, lights []uint8) uint8 {
	t.Helper()
	next, fault, e := Next(s, now, lights)
	if !slowMayBe(s, now) {
		if e != api.ErrBad || fault != 0 || !isNoStanding(next) {
			t.Fatalf("Next(%v, %v): %v, %d, %d", now, lights, next, fault, e)
		}
		return fault
	}
	want, wantFault := slowNext(s, now, lights)
	if e != api.OK || fault != wantFault || !sameStanding(next, want) {
		t.Fatalf("Next(%v, %v): %v, %d, %d; not %v, %d", now, lights, next, fault, e, want, wantFault)
	}
	return fault
}

// P8.2, R1, W8: any standings of any sites, with any lights.
func TestAnyStandings(t *testing.T) {
	source := rand.New(rand.NewPCG(8, 3))
	number := func() int { return int(source.Uint64()) >> source.IntN(64) }
	aspect := func(likely uint8) uint8 {
		switch source.IntN(6) {
		case 0:
			return uint8(source.IntN(256))
		case 1, 2:
			return uint8(source.IntN(5))
		}
		return likely
	}
	told := map[uint8]int{}
	for range 400 {
		s := anySite(source)
		for range 100 {
			now := api.Safe{Flashed: source.IntN(4) == 0}
			if source.IntN(3) == 0 {
				now.Start = number()
			}
			lights := make([]uint8, len(s.Groups))
			likely, shown := uint8(source.IntN(5)), uint8(source.IntN(5))
			for i := range lights {
				now.Groups = append(now.Groups, api.Seen{Aspect: aspect([]uint8{api.Red, likely}[source.IntN(8)/7]), Since: number(), Ended: number()})
				lights[i] = aspect([]uint8{now.Groups[i].Aspect, shown}[source.IntN(8)/7])
			}
			told[hold(t, s, now, lights)]++
		}
	}
	for fault := range api.FaultStart + 1 {
		if fault != api.FaultCount && told[fault] == 0 {
			t.Error("never told", fault, told)
		}
	}
}
