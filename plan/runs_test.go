package plan

import (
	"math/rand/v2"
	"testing"

	"stopline/api"
	"stopline/gate"
	"stopline/safe"
	"stopline/site"
	"stopline/turn"
)

// P17.5: in as many ticks as the Cycle has, from any tick on, each phase's part has just as many as its split; and in the last ticks of a part, as many as site.Clear tells, the next one is wanted.
func TestTicksOfACycle(t *testing.T) {
	source := rand.New(rand.NewPCG(17, 5))
	list := smallSites()
	for range 40 {
		list = append(list, anySite(source, false))
	}
	for _, s := range list {
		p := anyPlan(source, s)
		for _, begins := range []int{0, 1, p.Offset, p.Cycle - 1, source.IntN(api.MaxCounter / 2), api.MaxCounter - p.Cycle + 1} {
			parts, wanted := make([]int, len(s.Phases)), make([]int, len(s.Phases))
			for tick := begins; tick < begins+p.Cycle; tick++ {
				phase, into, e := At(s, p, tick)
				wants, f := Wants(s, p, tick)
				if e != api.OK || f != api.OK {
					t.Fatal(e, f)
				}
				parts[phase]++
				wanted[wants]++
				clear, e := site.Clear(s, phase, slowNext(s, phase))
				if last := into >= p.Splits[phase]-clear; e != api.OK || last != (wants != phase) && len(s.Phases) > 1 || wants != phase && wants != slowNext(s, phase) {
					t.Fatal(p, tick, phase, into, wants, e)
				}
			}
			for i := range s.Phases {
				if parts[i] != p.Splits[i] {
					t.Fatal(p, begins, i, parts)
				}
				ahead := (i + len(s.Phases) - 1) % len(s.Phases)
				if want := p.Splits[i] - slowClear(s, i) + slowClear(s, ahead); wanted[i] != want {
					t.Fatal(p, begins, i, wanted, want)
				}
			}
		}
	}
}

// P17.5: of a small plan each window of a cycle's ticks, also of the greatest cycle the ends of it.
func TestEachWindow(t *testing.T) {
	for _, s := range []api.Site{pair(), cycling(three(), 0, 3), uneven(), free()} {
		everyParted(s, s.High, func(splits []int) {
			p := planOf(s.High, s.High/3, splits...)
			parts := make([]int, len(s.Phases))
			for tick := range 3 * p.Cycle {
				phase, _, e := At(s, p, tick)
				if e != api.OK {
					t.Fatal(e)
				}
				parts[phase]++
				if behind := tick - p.Cycle; behind >= 0 {
					phase, _, _ = At(s, p, behind)
					parts[phase]--
				}
				for i := range parts {
					if tick >= p.Cycle-1 && parts[i] != p.Splits[i] {
						t.Fatal(p, tick, parts)
					}
				}
			}
		})
	}
}

// shownTick is what was seen in a tick: whose part it is and how far, what was wanted, and whether the part's phase was full.
type shownTick struct {
	place
	full bool
}

// run asks the gate what is wanted, tick by tick from one on, and tells what was seen.
func run(t *testing.T, s api.Site, p api.Plan, now api.Safe, from, ticks int) []shownTick {
	t.Helper()
	list := []shownTick{}
	for tick := from; tick < from+ticks; tick++ {
		phase, into, e := At(s, p, tick)
		wants, f := Wants(s, p, tick)
		asks, g := turn.Asks(s, wants)
		lights, h := gate.Admit(s, now, asks)
		next, fault, k := safe.Next(s, now, lights)
		full, l := turn.Full(s, next, phase)
		for _, e := range []api.Errno{e, f, g, h, k, l} {
			if e != api.OK || fault != api.FaultNone {
				t.Fatal(e, fault)
			}
		}
		now = next
		list = append(list, shownTick{place{phase, into, wants}, full})
	}
	return list
}

// holdKept holds what P17.5 promises of a run: behind each window of a cycle's ticks in which each phase was full at the first tick of its part each phase is, in the next ones of a cycle, full from the first tick of its part on, as long as it is wanted. It answers how many such windows there were.
func holdKept(t *testing.T, s api.Site, p api.Plan, seen []shownTick) int {
	t.Helper()
	kept := 0
	for begins := 0; begins+2*p.Cycle <= len(seen); begins++ {
		well := true
		for _, one := range seen[begins : begins+p.Cycle] {
			well = well && (one.into > 0 || one.full)
		}
		if !well {
			continue
		}
		kept++
		for i, one := range seen[begins+p.Cycle : begins+2*p.Cycle] {
			if one.wants == one.phase && !one.full {
				t.Fatalf("%+v of %+v: not full, %d behind the window at %d: %+v", p, s, i, begins, one)
			}
		}
	}
	return kept
}

func first(s api.Site) api.Safe {
	now, e := safe.First(s)
	if e != api.OK {
		panic(e)
	}
	return now
}

// anyStanding is one that goes on, is not Flashed, and whose Start is 0, whatever could have led to it.
func anyStanding(source *rand.Rand, s api.Site) api.Safe {
	now := api.Safe{}
	counts := []int{-1, 0, 1, 2, 3, 5, 8, top}
	for i := range s.Groups {
		seen := api.Seen{Aspect: api.Red, Since: counts[source.IntN(len(counts))], Ended: counts[source.IntN(len(counts))]}
		free := true
		for k, other := range now.Groups {
			free = free && !(slowApart(s, i, k) && other.Aspect != api.Red)
		}
		if free && source.IntN(2) == 0 {
			seen.Aspect = []uint8{api.Green, api.Yellow}[source.IntN(2)]
		}
		now.Groups = append(now.Groups, seen)
	}
	return now
}

// P17.5 (W5): tick by tick through the gate, of sites whose betweens and yellows are below each phase's Min: from the first standing on, and from any one, at any tick.
func TestFullAgainInTheNextCycle(t *testing.T) {
	source := rand.New(rand.NewPCG(17, 6))
	runs, kept := 0, 0
	for range 120 {
		s := anySite(source, true)
		for range 3 {
			p := anyPlan(source, s)
			for _, now := range []api.Safe{first(s), anyStanding(source, s)} {
				from := []int{0, p.Offset, source.IntN(api.MaxCounter / 2), api.MaxCounter - 5*p.Cycle}[source.IntN(4)]
				runs++
				if holdKept(t, s, p, run(t, s, p, now, from, 5*p.Cycle)) > 0 {
					kept++
				}
			}
		}
	}
	if runs < 700 || kept < runs*9/10 {
		t.Error("seldom was each phase full", runs, kept)
	}
}

// P17.5 (W5): every plan of small sites, from each tick of a cycle on.
func TestFullAgainOfEveryPlan(t *testing.T) {
	for _, s := range []api.Site{
		lasting(pair(), 2, 2), cycling(lasting(three(), 2, 2, 2), 0, 2), cycling(lasting(uneven(), 5, 5, 6), 0, 2),
		cycling(lasting(free(), 2, 2, 2, 2), 0, 1), cycling(lasting(half(), 6, 6, 7), 0, 1), cycling(lasting(many(), 2, 2, 2, 2, 2, 2, 2, 2), 0, 1),
	} {
		for cycle := s.Low; cycle <= s.High; cycle++ {
			everyParted(s, cycle, func(splits []int) {
				p := planOf(cycle, cycle/2, splits...)
				for from := 0; from < cycle; from += 1 + cycle/9 {
					if holdKept(t, s, p, run(t, s, p, first(s), from, 4*cycle)) == 0 {
						t.Fatal("never was each phase full", p, from)
					}
				}
			})
		}
	}
}

// W5: where no two phases share a group, and all have something between them, the lights tell the splits: from one cycle to the next each phase is full for as many ticks as its split without what lies to the next one.
func TestLightsTellTheSplits(t *testing.T) {
	for _, s := range []api.Site{cycling(lasting(pair(), 2, 2), 0, 9), cycling(lasting(uneven(), 5, 6, 7), 1, 7), cycling(lasting(crowded(), 6, 6, 7, 6, 9, 6, 6, 6), 3, 30)} {
		source := rand.New(rand.NewPCG(17, 7))
		for range 20 {
			p := anyPlan(source, s)
			seen := run(t, s, p, first(s), p.Offset, 4*p.Cycle)
			fulls := make([]int, len(s.Phases))
			for _, one := range seen[2*p.Cycle : 3*p.Cycle] {
				if one.full {
					fulls[one.phase]++
				}
			}
			for i, split := range p.Splits {
				if fulls[i] != split-slowClear(s, i) {
					t.Fatal(p, i, fulls)
				}
			}
		}
	}
}
