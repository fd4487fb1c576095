package lamp

import (
	"math"
	"testing"

	"stopline/api"
)

// example is the group of the chapter's examples.
func example() api.Group { return api.Group{Kind: api.Wheels, Min: 3, Yellow: 2} }

// The numbers that the document gives, and that no two aspects or faults are the same: all else here is told by their names.
func TestGivenNumbers(t *testing.T) {
	if top != 1048576 {
		t.Error(top)
	}
	for _, names := range [][]uint8{
		{api.Dark, api.Red, api.Green, api.Yellow, api.Flash},
		{api.FaultNone, api.FaultAspect, api.FaultMin, api.FaultYellow},
	} {
		seen := map[uint8]bool{}
		for _, n := range names {
			if seen[n] {
				t.Error(n, names)
			}
			seen[n] = true
		}
	}
}

// Every row of the chapter's examples.
func TestExamples(t *testing.T) {
	g := example()
	seen := func(aspect uint8, since int) api.Seen { return api.Seen{Aspect: aspect, Since: since} }
	for i, c := range []struct{ got, want uint8 }{
		{Want(g, seen(api.Green, 2), api.Red), api.Green},
		{Want(g, seen(api.Green, 3), api.Red), api.Yellow},
		{Want(g, seen(api.Yellow, 1), api.Green), api.Yellow},
		{Want(g, seen(api.Yellow, 2), api.Green), api.Red},
		{May(g, seen(api.Green, 2), api.Red), api.FaultAspect},
		{May(g, seen(api.Green, 3), api.Red), api.FaultAspect},
		{May(g, seen(api.Green, 2), api.Yellow), api.FaultMin},
		{May(g, seen(api.Yellow, 2), api.Yellow), api.FaultYellow},
	} {
		if c.got != c.want {
			t.Errorf("example %d: %d, not %d", i, c.got, c.want)
		}
	}
}

// P7.1: three pairs follow, of all that there are.
func TestFollows(t *testing.T) {
	many := 0
	for _, a := range allAspects() {
		for _, b := range allAspects() {
			got := Follows(a, b)
			if got != slowFollows(a, b) {
				t.Errorf("Follows(%d, %d): %v", a, b, got)
			}
			if got {
				many++
			}
		}
	}
	if many != 3 || !Follows(api.Red, api.Green) || !Follows(api.Green, api.Yellow) || !Follows(api.Yellow, api.Red) {
		t.Error(many)
	}
}

// P7.1: the same aspect goes on, another one begins anew; green ends at the last tick in which it is shown.
func TestNext(t *testing.T) {
	const some = uint8(9)
	for i, c := range []struct {
		s      api.Seen
		aspect uint8
		want   api.Seen
	}{
		{api.Seen{Aspect: api.Red, Since: 1, Ended: 7}, api.Red, api.Seen{Aspect: api.Red, Since: 2, Ended: 8}},
		{api.Seen{Aspect: api.Red, Since: 4, Ended: 7}, api.Green, api.Seen{Aspect: api.Green, Since: 1}},
		{api.Seen{Aspect: api.Green, Since: 4}, api.Green, api.Seen{Aspect: api.Green, Since: 5}},
		{api.Seen{Aspect: api.Green, Since: 4}, api.Yellow, api.Seen{Aspect: api.Yellow, Since: 1, Ended: 1}},
		{api.Seen{Aspect: api.Yellow, Since: 4, Ended: 4}, api.Yellow, api.Seen{Aspect: api.Yellow, Since: 5, Ended: 5}},
		{api.Seen{Aspect: api.Yellow, Since: 4, Ended: 4}, api.Red, api.Seen{Aspect: api.Red, Since: 1, Ended: 5}},
		// What may not follow is counted like what may.
		{api.Seen{Aspect: api.Green, Since: 4}, api.Red, api.Seen{Aspect: api.Red, Since: 1, Ended: 1}},
		{api.Seen{Aspect: api.Yellow, Since: 4, Ended: 4}, api.Green, api.Seen{Aspect: api.Green, Since: 1}},
		{api.Seen{Aspect: api.Red, Since: 4, Ended: 4}, api.Flash, api.Seen{Aspect: api.Flash, Since: 1, Ended: 5}},
		{api.Seen{Aspect: api.Flash, Since: 4, Ended: 4}, api.Flash, api.Seen{Aspect: api.Flash, Since: 5, Ended: 5}},
		{api.Seen{Aspect: api.Flash, Since: 4, Ended: 4}, api.Red, api.Seen{Aspect: api.Red, Since: 1, Ended: 5}},
		{api.Seen{}, api.Dark, api.Seen{Aspect: api.Dark, Since: 1, Ended: 1}},
		{api.Seen{}, api.Red, api.Seen{Aspect: api.Red, Since: 1, Ended: 1}},
		{api.Seen{Aspect: some, Since: 4, Ended: 6}, some, api.Seen{Aspect: some, Since: 5, Ended: 7}},
		{api.Seen{Aspect: api.Red, Since: 4, Ended: 6}, some, api.Seen{Aspect: some, Since: 1, Ended: 7}},
		// Green is not ended, whatever it is told to be.
		{api.Seen{Aspect: api.Green, Since: 4, Ended: 6}, api.Green, api.Seen{Aspect: api.Green, Since: 5}},
		{api.Seen{Aspect: api.Green, Since: 4, Ended: 6}, api.Yellow, api.Seen{Aspect: api.Yellow, Since: 1, Ended: 7}},
		{api.Seen{Aspect: api.Red, Since: top, Ended: top}, api.Green, api.Seen{Aspect: api.Green, Since: 1}},
	} {
		if got := Next(example(), c.s, c.aspect); got != c.want {
			t.Errorf("%d: Next(%v, %d): %v, not %v", i, c.s, c.aspect, got, c.want)
		}
	}
}

// P7.1: what counts stop at, of Since and of Ended, each beside any of the other one.
func TestCountsStop(t *testing.T) {
	for n, want := range map[int]int{
		math.MinInt: 1, math.MinInt + 1: 1, -top: 1, -5: 1, -1: 1, 0: 1, 1: 2, 2: 3,
		top - 2: top - 1, top - 1: top, top: top, top + 1: top, top + 9: top, 1 << 32: top, math.MaxInt - 1: top, math.MaxInt: top,
	} {
		for _, other := range counts() {
			for _, a := range someAspects() {
				s := Next(example(), api.Seen{Aspect: a, Since: n, Ended: other}, a)
				if s.Since != want {
					t.Errorf("Since %d beside %d, aspect %d: %v", n, other, a, s)
				}
				s = Next(example(), api.Seen{Aspect: api.Red, Since: other, Ended: n}, a)
				if a == api.Green && s.Ended != 0 || a != api.Green && s.Ended != want {
					t.Errorf("Ended %d beside %d, aspect %d: %v", n, other, a, s)
				}
			}
		}
	}
}

// P7.2: each fault, and none, at each edge.
func TestMay(t *testing.T) {
	for i, c := range []struct {
		stood uint8
		since int
		shown uint8
		want  uint8
	}{
		{api.Red, 1, api.Red, api.FaultNone}, {api.Red, 1, api.Green, api.FaultNone}, {api.Red, 9, api.Yellow, api.FaultAspect},
		{api.Green, 1, api.Green, api.FaultNone}, {api.Green, top, api.Green, api.FaultNone},
		{api.Green, math.MinInt, api.Yellow, api.FaultMin}, {api.Green, -1, api.Yellow, api.FaultMin}, {api.Green, 0, api.Yellow, api.FaultMin},
		{api.Green, 2, api.Yellow, api.FaultMin}, {api.Green, 3, api.Yellow, api.FaultNone}, {api.Green, 4, api.Yellow, api.FaultNone},
		{api.Green, top + 1, api.Yellow, api.FaultNone}, {api.Green, math.MaxInt, api.Yellow, api.FaultNone},
		{api.Yellow, math.MinInt, api.Yellow, api.FaultNone}, {api.Yellow, 0, api.Yellow, api.FaultNone}, {api.Yellow, 1, api.Yellow, api.FaultNone},
		{api.Yellow, 2, api.Yellow, api.FaultYellow}, {api.Yellow, 3, api.Yellow, api.FaultYellow}, {api.Yellow, math.MaxInt, api.Yellow, api.FaultYellow},
		{api.Yellow, math.MinInt, api.Red, api.FaultYellow}, {api.Yellow, 0, api.Red, api.FaultYellow}, {api.Yellow, 1, api.Red, api.FaultYellow},
		{api.Yellow, 2, api.Red, api.FaultNone}, {api.Yellow, 3, api.Red, api.FaultNone}, {api.Yellow, math.MaxInt, api.Red, api.FaultNone},
		{api.Red, 9, api.Dark, api.FaultAspect}, {api.Green, 9, api.Flash, api.FaultAspect}, {api.Yellow, 2, 5, api.FaultAspect},
		{api.Dark, 9, api.Red, api.FaultAspect}, {api.Flash, 9, api.Red, api.FaultAspect}, {255, 9, api.Red, api.FaultAspect},
		{api.Dark, 9, api.Dark, api.FaultAspect}, {api.Flash, 9, api.Flash, api.FaultAspect}, {255, 9, 255, api.FaultAspect},
		{api.Dark, 9, api.Flash, api.FaultAspect}, {api.Flash, 9, api.Green, api.FaultAspect}, {api.Flash, 1, api.Yellow, api.FaultAspect},
	} {
		if got := May(example(), api.Seen{Aspect: c.stood, Since: c.since}, c.shown); got != c.want {
			t.Errorf("%d: May(%d since %d, %d): %d, not %d", i, c.stood, c.since, c.shown, got, c.want)
		}
	}
}

// P7.2: a green or a yellow that is cut short by what may not follow has the fault of the aspect, not of being short.
func TestWhichFaultIsTold(t *testing.T) {
	for _, since := range counts() {
		for _, stood := range someAspects() {
			for _, shown := range someAspects() {
				s := api.Seen{Aspect: stood, Since: since}
				faults := slowFaults(example(), s, shown)
				if len(faults) > 1 {
					t.Error("by the chapter's words no two hold at once", s, shown, faults)
				}
				if stood != shown && !slowFollows(stood, shown) && May(example(), s, shown) != api.FaultAspect {
					t.Errorf("May(%v, %d): %d", s, shown, May(example(), s, shown))
				}
			}
		}
	}
	for i, c := range []struct {
		s     api.Seen
		shown uint8
	}{
		{api.Seen{Aspect: api.Green, Since: 1}, api.Red}, {api.Seen{Aspect: api.Green, Since: 1}, api.Flash},
		{api.Seen{Aspect: api.Yellow, Since: 1}, api.Green}, {api.Seen{Aspect: api.Yellow, Since: 9}, api.Green}, {api.Seen{Aspect: api.Yellow, Since: 1}, api.Dark},
		{api.Seen{Aspect: api.Flash, Since: 1}, api.Yellow}, {api.Seen{Aspect: api.Red, Since: 1}, api.Yellow},
	} {
		if got := May(example(), c.s, c.shown); got != api.FaultAspect {
			t.Errorf("%d: May(%v, %d): %d", i, c.s, c.shown, got)
		}
	}
}

// P7.3: what is shown behind each aspect, at each edge.
func TestWant(t *testing.T) {
	for i, c := range []struct {
		stood        uint8
		since        int
		green, other uint8 // what is shown, if green is asked, and if anything else is
	}{
		{api.Red, 0, api.Green, api.Red}, {api.Red, top, api.Green, api.Red}, {api.Red, math.MinInt, api.Green, api.Red},
		{api.Green, math.MinInt, api.Green, api.Green}, {api.Green, -1, api.Green, api.Green}, {api.Green, 0, api.Green, api.Green}, {api.Green, 2, api.Green, api.Green},
		{api.Green, 3, api.Green, api.Yellow}, {api.Green, 4, api.Green, api.Yellow}, {api.Green, math.MaxInt, api.Green, api.Yellow},
		{api.Yellow, math.MinInt, api.Yellow, api.Yellow}, {api.Yellow, 0, api.Yellow, api.Yellow}, {api.Yellow, 1, api.Yellow, api.Yellow},
		{api.Yellow, 2, api.Red, api.Red}, {api.Yellow, 3, api.Red, api.Red}, {api.Yellow, math.MaxInt, api.Red, api.Red},
		{api.Dark, 0, api.Red, api.Red}, {api.Dark, 9, api.Red, api.Red}, {api.Flash, 1, api.Red, api.Red}, {api.Flash, 9, api.Red, api.Red},
		{5, 9, api.Red, api.Red}, {255, 9, api.Red, api.Red},
	} {
		for _, ask := range allAspects() {
			want := c.other
			if ask == api.Green {
				want = c.green
			}
			if got := Want(example(), api.Seen{Aspect: c.stood, Since: c.since}, ask); got != want {
				t.Errorf("%d: Want(%d since %d, %d): %d, not %d", i, c.stood, c.since, ask, got, want)
			}
		}
	}
}

// P7.2, P7.3: a Min and a Yellow are taken as they are: below 0 they hold nothing up, above MaxTicks they are never reached.
func TestBoundsBeyondTheirs(t *testing.T) {
	for _, since := range counts() {
		green, yellow := api.Seen{Aspect: api.Green, Since: since}, api.Seen{Aspect: api.Yellow, Since: since}
		for _, n := range []int{math.MinInt, -5, -1, 0} {
			g := api.Group{Min: n, Yellow: n}
			if Want(g, green, api.Red) != api.Yellow || May(g, green, api.Yellow) != api.FaultNone {
				t.Error("Min", n, green)
			}
			if Want(g, yellow, api.Red) != api.Red || May(g, yellow, api.Red) != api.FaultNone || May(g, yellow, api.Yellow) != api.FaultYellow {
				t.Error("Yellow", n, yellow)
			}
		}
		for _, n := range []int{top + 1, top + 2, 1 << 32, math.MaxInt} {
			g := api.Group{Min: n, Yellow: n}
			if Want(g, green, api.Red) != api.Green || May(g, green, api.Yellow) != api.FaultMin {
				t.Error("Min", n, green)
			}
			if Want(g, yellow, api.Red) != api.Yellow || May(g, yellow, api.Yellow) != api.FaultNone || May(g, yellow, api.Red) != api.FaultYellow {
				t.Error("Yellow", n, yellow)
			}
		}
		g, reached := api.Group{Min: top, Yellow: top}, since >= top
		if (Want(g, green, api.Red) == api.Yellow) != reached || (May(g, green, api.Yellow) == api.FaultNone) != reached {
			t.Error("Min", top, green)
		}
		if (Want(g, yellow, api.Green) == api.Red) != reached || (May(g, yellow, api.Red) == api.FaultNone) != reached {
			t.Error("Yellow", top, yellow)
		}
	}
}

// hold holds all calls against the chapter's words, and P7.4 with them.
func hold(t *testing.T, g api.Group, s api.Seen, aspect uint8) {
	t.Helper()
	if got, want := Next(g, s, aspect), slowNext(s, aspect); got != want {
		t.Fatalf("Next(%v, %v, %d): %v, not %v", g, s, aspect, got, want)
	}
	fault, shows := May(g, s, aspect), Want(g, s, aspect)
	if want := slowMay(g, s, aspect); fault != want {
		t.Fatalf("May(%v, %v, %d): %d, not %d", g, s, aspect, fault, want)
	}
	if want := slowWant(g, s, aspect); shows != want {
		t.Fatalf("Want(%v, %v, %d): %d, not %d", g, s, aspect, shows, want)
	}
	if _, goes := behind()[s.Aspect]; goes && May(g, s, shows) != api.FaultNone {
		t.Fatalf("P7.4: Want(%v, %v, %d): %d, whose fault is %d", g, s, aspect, shows, May(g, s, shows))
	}
	if fault == api.FaultNone && shows != aspect {
		t.Fatalf("P7.4: Want(%v, %v, %d): %d, though what is asked has no fault", g, s, aspect, shows)
	}
}

// P7.1 to P7.4, R1: at all edges at once.
func TestAtAllEdges(t *testing.T) {
	for _, g := range groups() {
		standings(g, func(s api.Seen) {
			for _, aspect := range someAspects() {
				hold(t, g, s, aspect)
			}
		})
	}
	for _, stood := range allAspects() {
		for _, aspect := range allAspects() {
			for since := range 5 {
				hold(t, example(), api.Seen{Aspect: stood, Since: since, Ended: 5}, aspect)
			}
		}
	}
}

// P7.1 to P7.4, R1, W8: numbers of all lengths.
func TestAnyNumbers(t *testing.T) {
	spread(300000, func(g api.Group, s api.Seen, aspect uint8) { hold(t, g, s, aspect) })
}

// P7.1 to P7.3: what is told hangs on what the chapter names alone.
func TestWhatIsNotAsked(t *testing.T) {
	spread(20000, func(g api.Group, s api.Seen, aspect uint8) {
		for _, kind := range []uint8{0, api.Wheels, api.Feet, 255} {
			for _, ended := range counts() {
				other, stood := g, s
				other.Kind, stood.Ended = kind, ended
				if May(other, stood, aspect) != May(g, s, aspect) || Want(other, stood, aspect) != Want(g, s, aspect) {
					t.Fatal("the Kind, or Ended", g, s, aspect, kind, ended)
				}
			}
		}
		if Next(api.Group{}, s, aspect) != Next(g, s, aspect) {
			t.Fatal("the group", g, s, aspect)
		}
	})
}
