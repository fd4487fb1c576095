package turn

import (
	"math/rand/v2"
	"testing"

	"stopline/api"
	"stopline/gate"
	"stopline/safe"
)

// P15.3, P15.5: every standing of small sites that goes on, with few counts.
func TestStepsOfEveryStanding(t *testing.T) {
	aspects := []uint8{api.Red, api.Green, api.Yellow, api.Flash}
	for _, s := range []api.Site{example(), shared(), beside(2, 3)} {
		seen := []api.Seen{}
		for _, aspect := range aspects {
			for _, since := range []int{0, 1, 2} {
				for _, ended := range []int{0, 2, top} {
					seen = append(seen, api.Seen{Aspect: aspect, Since: since, Ended: ended})
				}
			}
		}
		went := 0
		for _, a := range seen {
			for _, b := range seen {
				for _, c := range seen {
					now := api.Safe{Groups: []api.Seen{a, b, c}, Flashed: a.Aspect == api.Flash}
					if !slowGoesOn(s, now) {
						if _, e := Steps(s, now, 0); e != api.ErrBad {
							t.Fatal(now, e)
						}
						continue
					}
					went++
					for phase := range s.Phases {
						holdSteps(t, s, now, phase)
					}
				}
			}
		}
		if went < 3000 {
			t.Error("few went on", went)
		}
	}
}

// P15.3, P15.5: standings behind many random asks, from the first one on, through flash too.
func TestStepsBehindManyAsks(t *testing.T) {
	source := rand.New(rand.NewPCG(15, 3))
	list := append(smallSites(), crowded(), together())
	for range 60 {
		list = append(list, anySite(source))
	}
	kinds := map[string]int{}
	for _, s := range list {
		now, wanted := first(s), 0
		for range 150 {
			phase := source.IntN(len(s.Phases))
			steps := holdSteps(t, s, now, phase)
			holdAsks(t, s, phase)
			switch {
			case now.Flashed:
				kinds["flashed"]++
			case now.Start > 0:
				kinds["start"]++
			case steps == 0:
				kinds["full"]++
			case steps == 1:
				kinds["next"]++
			default:
				kinds["later"]++
			}
			if source.IntN(8) == 0 {
				wanted = source.IntN(len(s.Phases))
			}
			lights, e := gate.Admit(s, now, anyAsks(source, s, wanted))
			next, fault, f := safe.Next(s, now, lights)
			if e != api.OK || f != api.OK || fault != api.FaultNone {
				t.Fatal(e, f, fault)
			}
			now = next
		}
		holdWorst(t, s)
	}
	for _, kind := range []string{"flashed", "start", "full", "next", "later"} {
		if kinds[kind] < 50 {
			t.Error("seldom", kind, kinds)
		}
	}
}

// P15.3, P15.5: standings that go on, whatever could have led to them.
func TestStepsOfAnyStanding(t *testing.T) {
	source := rand.New(rand.NewPCG(15, 5))
	list := smallSites()
	for range 150 {
		list = append(list, anySite(source))
	}
	for _, s := range list {
		for range 40 {
			now := anyStanding(source, s)
			for phase := range s.Phases {
				holdFull(t, s, now, phase)
				if now.Start > 5000 && !now.Flashed {
					if got, e := Steps(s, now, phase); got != 0 || e != api.ErrMany {
						t.Fatal(now, got, e)
					}
					break
				}
				holdSteps(t, s, now, phase)
			}
		}
	}
}

// P15.3: each tick takes one step less, as long as the phase asks.
func TestStepsBecomeFewer(t *testing.T) {
	source := rand.New(rand.NewPCG(15, 6))
	for range 200 {
		s := anySite(source)
		phase, now := source.IntN(len(s.Phases)), anyStanding(source, s)
		if !now.Flashed {
			now.Start = min(now.Start, 50)
		}
		steps, e := Steps(s, now, phase)
		if e != api.OK {
			t.Fatal(e)
		}
		for left := steps; left > 0; left-- {
			now = behind(s, now, phase, 1)
			if got, e := Steps(s, now, phase); got != left-1 || e != api.OK {
				t.Fatal(got, left, e)
			}
			if full, e := Full(s, now, phase); full != (left == 1) || e != api.OK {
				t.Fatal(full, left, e)
			}
		}
	}
}

// P15.5: a phase that is full stays so, as long as it asks, from any standing in which it is.
func TestFullStaysFull(t *testing.T) {
	source := rand.New(rand.NewPCG(15, 7))
	list := append(smallSites(), crowded(), together())
	for range 100 {
		list = append(list, anySite(source))
	}
	for _, s := range list {
		for phase := range s.Phases {
			now := anyStanding(source, s)
			if !now.Flashed {
				now.Start = min(now.Start, 50)
			}
			steps, e := Steps(s, now, phase)
			if e != api.OK {
				t.Fatal(e)
			}
			now = behind(s, now, phase, steps)
			for range 60 {
				if full, e := Full(s, now, phase); !full || e != api.OK {
					t.Fatal("full no more", now, full, e)
				}
				if steps, e := Steps(s, now, phase); steps != 0 || e != api.OK {
					t.Fatal(steps, e)
				}
				now = behind(s, now, phase, 1)
			}
		}
	}
	s := example()
	now := behind(s, first(s), 1, 5)
	for tick := range 5000 {
		if full, e := Full(s, now, 1); !full || e != api.OK {
			t.Fatal(tick, full, e)
		}
		now = behind(s, now, 1, 1)
	}
}

// P15.5: the bounds are not far off: the longest turns take one tick less than the worst turn.
func TestHowNearTheBoundsAre(t *testing.T) {
	// A yellow that was not seen yet, and the least Min that there is.
	s := siteOf(alike(1, 1, 7), square(1, none))
	worst, _ := Worst(s)
	if got := holdSteps(t, s, stands("Y", 0, 0), 0); got != worst-1 {
		t.Error(got, worst)
	}
	// A green that was not seen yet, and the greatest between behind it.
	s = siteOf(alike(2, 4, 1), [][]int{{0, 6}, {3, 0}})
	worst, _ = Worst(s)
	if got := holdSteps(t, s, stands("GR", 0, 0), 1); got != worst-1 {
		t.Error(got, worst)
	}
	// Start is waited for whole.
	for _, start := range []int{0, 1, 70, 4000} {
		if got := holdSteps(t, s, starting(stands("RR", 1, top), start), 1); got != start+1 {
			t.Error(start, got)
		}
	}
}

// W4: from the first standing on each phase of a site is full within a number of ticks that the site alone tells, whichever is asked one behind the other.
func TestRoundOfPhases(t *testing.T) {
	source := rand.New(rand.NewPCG(15, 8))
	for range 150 {
		s := anySite(source)
		now := first(s)
		worst, _ := Worst(s)
		for range 3 * len(s.Phases) {
			phase := source.IntN(len(s.Phases))
			room := worst + now.Start
			ticks := 0
			for {
				if full, _ := Full(s, now, phase); full {
					break
				}
				now = behind(s, now, phase, 1)
				ticks++
				if ticks > room {
					t.Fatal(ticks, room)
				}
			}
		}
	}
}

// P15.3: what Steps tells from the first standing on is what a whole run of the gate shows.
func TestStepsAndRun(t *testing.T) {
	source := rand.New(rand.NewPCG(15, 9))
	list := append(goodSites(), wide(4095), wide(4096))
	for range 100 {
		list = append(list, anySite(source))
	}
	for _, s := range list {
		for phase := range s.Phases {
			asks, _ := slowAsks(s, phase)
			ticks := make([][]uint8, 4096)
			for i := range ticks {
				ticks[i] = asks
			}
			trace, e := gate.Run(s, ticks)
			if e != api.OK {
				t.Fatal(e)
			}
			want, f := 0, api.ErrMany
			for i, lights := range trace {
				all := true
				for _, g := range groupsOf(s, phase) {
					all = all && lights[g] == api.Green
				}
				if all {
					want, f = i+1, api.OK
					break
				}
			}
			if got, e := Steps(s, first(s), phase); got != want || e != f {
				t.Fatal(phase, got, e, want, f)
			}
		}
	}
}
