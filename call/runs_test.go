package call

import (
	"math/rand/v2"
	"slices"
	"testing"

	"stopline/api"
	"stopline/eye"
)

// P14.4: going round by First, each time from the one that was told, every phase of c is told once before one is told again, from every phase and from none; and so on in the rounds that follow.
func TestGoingRound(t *testing.T) {
	for phases := 1; phases <= api.MaxPhases; phases++ {
		s := wide(phases, 0)
		for c := uint32(1); c < 1<<phases; c++ {
			called := numbersOf(c)
			for from := -1; from < phases; from++ {
				at := from
				for round := range 3 {
					told := []int{}
					for range called {
						var e api.Errno
						if at, e = First(s, c, at); e != api.OK {
							t.Fatal(phases, c, from, e)
						}
						told = append(told, at)
					}
					if !slices.Equal(slices.Sorted(slices.Values(told)), called) {
						t.Fatal(phases, c, from, round, told)
					}
				}
			}
		}
	}
}

// day is what happened in a run, tick by tick: which phases were wanted, which one was green.
type day struct {
	first  uint32
	wanted [][]bool
	greens []int
}

// calledAt looks back from a tick: a phase is called, if it has been wanted since its last green; if it was never green, also if it was called at first.
func (d day) calledAt(tick, phase int) bool {
	for ; tick >= 0; tick-- {
		if d.greens[tick] == phase {
			return false
		}
		if d.wanted[tick][phase] {
			return true
		}
	}
	return slices.Contains(numbersOf(d.first), phase)
}

// step moves detectors on by a tick and writes down what is wanted then; it tells the detectors.
func (d *day) step(t *testing.T, s api.Site, l []api.Looked, ups uint32, green int) []api.Looked {
	t.Helper()
	l, e := eye.All(s, l, ups)
	if e != api.OK {
		t.Fatal(e)
	}
	wanted := []bool{}
	for phase := range s.Phases {
		wanted = append(wanted, slowWanted(s, l, phase))
	}
	d.wanted = append(d.wanted, wanted)
	d.greens = append(d.greens, green)
	return l
}

// P14.4: a call stays until its phase is green, and a phase that is wanted while it is not green is called: over many ticks with changing detectors and greens, against looking back.
func TestCallsStay(t *testing.T) {
	source := rand.New(rand.NewPCG(14, 2))
	stayed := 0
	for range 300 {
		s := anySite(source)
		l := make([]api.Looked, len(s.Eyes))
		d := day{first: source.Uint32N(1 << len(s.Phases))}
		c, green := d.first, -1
		for tick := range 120 {
			if source.IntN(4) == 0 {
				green = source.IntN(len(s.Phases)+1) - 1
			}
			l = d.step(t, s, l, source.Uint32()&source.Uint32()&source.Uint32()&source.Uint32(), green)
			was := c
			var e api.Errno
			if c, e = Next(s, c, l, green); e != api.OK {
				t.Fatal(s.Eyes, was, l, green, e)
			}
			for phase := range s.Phases {
				called := slices.Contains(numbersOf(c), phase)
				if called != d.calledAt(tick, phase) {
					t.Fatal(s.Eyes, tick, phase, was, c, green)
				}
				if called && !d.wanted[tick][phase] {
					stayed++
				}
			}
		}
	}
	if stayed < 10000 {
		t.Error("too few calls stayed", stayed)
	}
}

// W4, as far as calls go: where the next green is always First's, a phase that is called is green within as many turns as there are other phases, whatever else is wanted; no other one has two turns ahead of it.
func TestServedInTurn(t *testing.T) {
	source := rand.New(rand.NewPCG(14, 3))
	waited := 0
	for range 300 {
		s := anySite(source)
		l := make([]api.Looked, len(s.Eyes))
		c, green := uint32(0), -1
		turns := make([]int, len(s.Phases)) // how many turns others had while a phase was called
		for range 200 {
			var e api.Errno
			if l, e = eye.All(s, l, source.Uint32()&source.Uint32()); e != api.OK {
				t.Fatal(e)
			}
			if c, e = Next(s, c, l, green); e != api.OK {
				t.Fatal(e)
			}
			if source.IntN(3) > 0 {
				continue
			}
			next, e := First(s, c, green)
			if e != api.OK || next == -1 != (c == 0) || next == green && next != -1 {
				t.Fatal(c, green, next, e)
			}
			if next == -1 {
				continue
			}
			others := len(s.Phases) - 1
			for _, phase := range numbersOf(c) {
				if phase == next {
					waited = max(waited, turns[phase])
					turns[phase] = 0
					continue
				}
				if turns[phase]++; turns[phase] > others {
					t.Fatal(s.Eyes, phase, turns)
				}
			}
			green = next
		}
	}
	if waited != api.MaxPhases-1 {
		t.Error("none waited for all others", waited)
	}
}

// P14.4: a phase whose detector says nothing for as long as its Off is called from that tick on, and again behind each of its greens.
func TestAnIllDetectorCalls(t *testing.T) {
	s := wide(2, 0, 0) // Off is 40
	l, c := make([]api.Looked, 1), uint32(0)
	for tick := range 200 {
		green := tick / 3 % 2
		want := uint32(0)
		if tick >= 39 && green == 1 {
			want = 1
		}
		var e api.Errno
		l, _ = eye.All(s, l, 0)
		if c, e = Next(s, c, l, green); c != want || e != api.OK {
			t.Fatal(tick, c, want, l, e)
		}
	}
}
