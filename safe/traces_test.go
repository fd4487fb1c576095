package safe

import (
	"math/rand/v2"
	"slices"
	"testing"

	"stopline/api"
)

// all is lights of which all groups show the same.
func all(s api.Site, aspect uint8) []uint8 { return slices.Repeat([]uint8{aspect}, len(s.Groups)) }

// behind is how a site stands behind a trace that has no fault.
func behind(t *testing.T, s api.Site, trace [][]uint8) api.Safe {
	t.Helper()
	now, e := First(s)
	for tick, lights := range trace {
		next, fault, f := Next(s, now, lights)
		if e != api.OK || f != api.OK || fault != api.FaultNone {
			t.Fatalf("tick %d of %v: %d, %d, %d", tick, trace, fault, e, f)
		}
		now = next
	}
	return now
}

// P8.2: from the start on, and behind flash, all are red for as many ticks as the greatest between (behind flash for one at least).
func TestRedBehindFlash(t *testing.T) {
	for i, c := range []struct {
		s        api.Site
		greatest int
	}{{free(), 0}, {alone(), 0}, {near(), 1}, {two(), 2}, {uneven(), 5}, {three(), 6}, {crowded(), 5}} {
		flash, red, green := all(c.s, api.Flash), all(c.s, api.Red), all(c.s, api.Red)
		green[0] = api.Green
		ahead := [][][]uint8{nil, {flash}, {flash, flash}, {flash, flash, flash}, {red, flash}, {red, flash, red, flash}, {flash, red, red, red, flash, flash}}
		going := slices.Repeat([][]uint8{red}, c.greatest)
		ahead = append(ahead, append(slices.Clone(going), flash), append(slices.Clone(going), green, flash), append(slices.Clone(going), green, green, flash, flash))
		for k, trace := range ahead {
			least := c.greatest
			if k > 0 {
				least = max(least, 1)
			}
			for n := range least {
				now := behind(t, c.s, append(slices.Clone(trace), slices.Repeat([][]uint8{red}, n)...))
				if now.Start != c.greatest-n && !(k > 0 && c.greatest == 0 && now.Start == 0) || now.Flashed != (k > 0 && n == 0) {
					t.Error(i, k, n, now)
				}
				if next, fault, e := Next(c.s, now, green); fault != api.FaultStart || e != api.OK || !sameStanding(next, now) {
					t.Error(i, k, n, next, fault, e)
				}
			}
			now := behind(t, c.s, append(slices.Clone(trace), slices.Repeat([][]uint8{red}, least)...))
			if now.Start != 0 || now.Flashed {
				t.Error(i, k, now)
			}
			next, fault, e := Next(c.s, now, green)
			if fault != api.FaultNone || e != api.OK || next.Start != 0 || next.Flashed || next.Groups[0] != (api.Seen{Aspect: api.Green, Since: 1}) {
				t.Error(i, k, next, fault, e)
			}
		}
	}
}

// P8.2: the longest start there may be, and Starts that are handed in.
func TestStartsThatAreHandedIn(t *testing.T) {
	s := far()
	red, flash := all(s, api.Red), all(s, api.Flash)
	for i, c := range []struct {
		now    api.Safe
		lights []uint8
		want   int
	}{
		{starting(stands("RRR", 1, 9), top), red, top - 1}, {starting(stands("RRR", 1, 9), 1), red, 0}, {starting(stands("RRR", 1, 9), 0), red, 0},
		{starting(stands("RRR", 1, 9), 0), flash, top}, {starting(stands("RRR", 1, 9), 7), flash, top}, {starting(stands("RRR", 1, 9), top), flash, top},
		{flashed(stands("FFF", 1, 9)), flash, top},
		// Behind flash what Start was is not asked.
		{flashed(stands("FFF", 1, 9)), red, top - 1}, {flashed(starting(stands("FFF", 1, 9), 3)), red, top - 1}, {flashed(starting(stands("RGR", 1, 9), top)), red, top - 1},
	} {
		next, fault, e := Next(s, c.now, c.lights)
		if fault != api.FaultNone || e != api.OK || next.Start != c.want || next.Flashed != (c.lights[0] == api.Flash) {
			t.Error(i, next, fault, e)
		}
	}
	// And beside a greatest between of 0.
	for i, c := range []struct {
		now    api.Safe
		lights string
		want   int
	}{
		{starting(stands("RR", 1, 9), 4), "RR", 3}, {starting(stands("RR", 1, 9), 4), "FF", 0},
		{flashed(starting(stands("FF", 1, 9), 4)), "RR", 0}, {flashed(starting(stands("FF", 1, 9), 4)), "FF", 0},
	} {
		if next, fault, e := Next(free(), c.now, lightsOf(c.lights)); fault != api.FaultNone || e != api.OK || next.Start != c.want {
			t.Error(i, next, fault, e)
		}
	}
}

// P8.2: flash has no fault, and counts go on through it.
func TestFlash(t *testing.T) {
	now := behind(t, two(), traceOf("RR", "RR", "GR", "FF"))
	want := api.Safe{Groups: []api.Seen{{Aspect: api.Flash, Since: 1, Ended: 1}, {Aspect: api.Flash, Since: 1, Ended: top}}, Start: 2, Flashed: true}
	if !sameStanding(now, want) {
		t.Error(now)
	}
	now = behind(t, two(), traceOf("RR", "RR", "GR", "FF", "FF", "RR"))
	want = api.Safe{Groups: []api.Seen{{Aspect: api.Red, Since: 1, Ended: 3}, {Aspect: api.Red, Since: 1, Ended: top}}, Start: 1}
	if !sameStanding(now, want) {
		t.Error(now)
	}
}

// P8.2: Ended one below Between, at it, and one above it, of either group as the first; the other way round tells nothing.
func TestBetweenAtItsEdges(t *testing.T) {
	for i, s := range []api.Site{two(), uneven(), near(), three(), far(), crowded()} {
		for _, p := range apartPairs(s) {
			first, second := p[0], p[1]
			n := s.Between[first][second]
			for _, aspect := range []uint8{api.Red, api.Yellow} {
				now, _ := First(s)
				now.Start = 0
				now.Groups[first] = api.Seen{Aspect: aspect, Since: s.Groups[first].Yellow}
				lights := all(s, api.Red)
				lights[second] = api.Green
				for ended, want := range map[int]uint8{0: api.FaultBetween, n - 1: api.FaultBetween, n: api.FaultNone, n + 1: api.FaultNone} {
					now.Groups[first].Ended = ended
					now.Groups[second].Ended = 0 // its own green has ended just now: that is not asked
					if _, fault, e := Next(s, now, lights); fault != want || e != api.OK {
						t.Error(i, p, aspect, ended, fault, e)
					}
				}
			}
		}
	}
}

// P8.3: the same in traces, with one between from the first to the second, and another one back.
func TestBetweenInTraces(t *testing.T) {
	for i, c := range []struct {
		first, second string
		between       int
	}{{"GR", "RG", 5}, {"RG", "GR", 3}} {
		yellow := map[string]string{"GR": "YR", "RG": "RY"}[c.first]
		for reds := range 8 {
			trace := traceOf("RR", "RR", "RR", "RR", "RR", c.first, yellow)
			trace = append(trace, slices.Repeat(traceOf("RR"), reds)...)
			trace = append(trace, lightsOf(c.second))
			at, fault, e := Check(uneven(), trace)
			wantAt, want := -1, api.FaultNone
			if 1+reds < c.between {
				wantAt, want = 7+reds, api.FaultBetween
			}
			if at != wantAt || fault != want || e != api.OK {
				t.Error(i, reds, at, fault, e)
			}
		}
	}
}

// P8.3: each fault at its tick, the first one alone, and what a trace may be.
func TestCheck(t *testing.T) {
	for i, c := range []struct {
		s     api.Site
		trace [][]uint8
		at    int
		fault uint8
	}{
		{two(), nil, -1, api.FaultNone}, {two(), [][]uint8{}, -1, api.FaultNone},
		{two(), traceOf("RR"), -1, api.FaultNone}, {two(), traceOf("FF"), -1, api.FaultNone},
		{two(), [][]uint8{nil}, 0, api.FaultCount}, {two(), traceOf(""), 0, api.FaultCount}, {two(), traceOf("RR", "R"), 1, api.FaultCount}, {two(), traceOf("RR", "RR", "RRR"), 2, api.FaultCount},
		{two(), traceOf("GR"), 0, api.FaultStart}, {two(), traceOf("RR", "zR"), 1, api.FaultStart},
		{two(), traceOf("RR", "RF"), 1, api.FaultFlash}, {two(), traceOf("RR", "RR", "RD"), 2, api.FaultAspect},
		{two(), traceOf("RR", "RR", "GR", "RR"), 3, api.FaultAspect}, {two(), traceOf("RR", "RR", "GR", "YR"), 3, api.FaultMin}, {two(), traceOf("RR", "RR", "GR", "GR", "YR", "YR"), 5, api.FaultYellow},
		{two(), traceOf("RR", "RR", "GR", "GR", "YG"), 4, api.FaultMeet}, {two(), traceOf("RR", "RR", "RG", "RG", "RY", "GR"), 5, api.FaultBetween},
		{two(), traceOf("RR", "RR", "GR", "GR", "YR", "GR"), 5, api.FaultAspect}, {two(), traceOf("RR", "RR", "GR", "GR", "YR", "RR", "GR", "GR"), -1, api.FaultNone},
		{two(), traceOf("GR", "GG", "R", "FR"), 0, api.FaultStart},
		{two(), traceOf("FF", "RR", "GR"), 2, api.FaultStart}, {two(), traceOf("FF", "RR", "RR", "GR"), -1, api.FaultNone}, {two(), traceOf("RR", "FF", "RR", "FF", "RR", "GR"), 5, api.FaultStart},
		{free(), traceOf("GG", "GG", "YY", "RR", "GR"), -1, api.FaultNone}, {free(), traceOf("FF", "GG"), 1, api.FaultStart}, {free(), traceOf("FF", "RR", "GG", "GG", "YG", "RY"), -1, api.FaultNone},
		{alone(), traceOf("G", "G", "Y", "R"), -1, api.FaultNone}, {alone(), traceOf("G", "F", "F", "G"), 3, api.FaultStart},
		{near(), traceOf("RR", "GR", "YR", "RG", "RY", "GR"), -1, api.FaultNone},
		{three(), traceOf("RRR", "RRR", "RRR", "RRR", "RRR", "RRR", "GRG", "GRY", "YRY", "RRY", "RRR", "RRR", "RRR", "RGR"), -1, api.FaultNone},
		{three(), traceOf("RRR", "RRR", "RRR", "RRR", "RRR", "RRR", "GRG", "GRY", "YRY", "RRY", "RRR", "RRR", "RGR"), 12, api.FaultBetween},
	} {
		at, fault, e := Check(c.s, c.trace)
		if at != c.at || fault != c.fault || e != api.OK {
			t.Error(i, at, fault, e)
		}
	}
}

// P8.3: as many ticks as may be, and one more, which is told ahead of any fault.
func TestHowLongATraceMayBe(t *testing.T) {
	for _, lights := range [][]uint8{lightsOf("RR"), lightsOf("FF")} {
		trace := slices.Repeat([][]uint8{lights}, 4096)
		if at, fault, e := Check(two(), trace); at != -1 || fault != api.FaultNone || e != api.OK {
			t.Error(at, fault, e)
		}
		trace[4095] = lightsOf("FR")
		if at, fault, e := Check(two(), trace); at != 4095 || fault != api.FaultFlash || e != api.OK {
			t.Error(at, fault, e)
		}
		for _, more := range [][][]uint8{append(trace, lights), make([][]uint8, 4097), make([][]uint8, 100000)} {
			if at, fault, e := Check(two(), more); at != 0 || fault != 0 || e != api.ErrMany {
				t.Error(at, fault, e)
			}
		}
	}
	if at, fault, e := Check(two(), make([][]uint8, 4096)); at != 0 || fault != api.FaultCount || e != api.OK {
		t.Error(at, fault, e)
	}
	source := rand.New(rand.NewPCG(8, 4))
	long := wander(source, crowded(), 4096)
	if at, fault, e := Check(crowded(), long); at != -1 || fault != api.FaultNone || e != api.OK {
		t.Error(at, fault, e)
	}
}

// spared is a list with spare room behind it, filled so that a write there is seen.
func spared[T any](list []T, mark T) []T {
	long := append(slices.Clone(list), mark, mark, mark)
	return long[:len(list)]
}

// P8.4: what is handed in is as it was, its spare room too, and what is answered shares nothing with it.
func TestMemory(t *testing.T) {
	mark := api.Seen{Aspect: 77, Since: 77, Ended: 77}
	for _, s := range []api.Site{two(), free(), three(), crowded()} {
		site := cloneSite(s)
		first, e := First(s)
		again, _ := First(s)
		for i := range first.Groups {
			first.Groups[i] = mark
		}
		first = append1(first, mark)
		if third, _ := First(s); e != api.OK || !sameStanding(again, slowFirst(site)) || !sameStanding(third, again) {
			t.Error("First", again, third)
		}
		for _, lights := range [][]uint8{all(s, api.Red), all(s, api.Flash), all(s, api.Green), all(s, api.Yellow), nil} {
			now := slowFirst(s)
			now.Groups = spared(now.Groups, mark)
			handed := spared(lights, 77)
			stood, shown := cloneStanding(now), slices.Clone(lights)
			next, fault, _ := Next(s, now, handed)
			want, wantFault := slowNext(site, stood, shown)
			for i := range next.Groups {
				next.Groups[i] = mark
			}
			next = append1(next, mark)
			full, fullLights := now.Groups[:len(now.Groups)+3], handed[:len(handed)+3]
			if fault != wantFault || !sameStanding(now, stood) || !slices.Equal(handed, shown) || full[len(full)-3] != mark || fullLights[len(handed)] != 77 {
				t.Error("Next", lights, fault, now, handed)
			}
			if next, _, _ := Next(s, now, handed); !sameStanding(next, want) {
				t.Error("Next again", next, want)
			}
			if cap(want.Groups) > 0 && len(full) > 0 { // writing over what was handed in changes no answer
				kept, _, _ := Next(s, now, handed)
				full[0] = mark
				if !sameStanding(kept, want) {
					t.Error("kept", kept, want)
				}
			}
		}
		trace := wander(rand.New(rand.NewPCG(8, 5)), s, 60)
		trace = append(trace, nil, all(s, api.Green))
		was := cloneTrace(trace)
		at, fault, _ := Check(s, trace)
		if at != 60 || fault != api.FaultCount || !slices.EqualFunc(trace, was, slices.Equal) {
			t.Error("Check", at, fault)
		}
		if n, _ := Greatest(s); n != slowGreatest(site) || !sameSite(s, site) {
			t.Error("site", s)
		}
	}
}

// append1 writes into the spare room of a standing, if it has any.
func append1(now api.Safe, mark api.Seen) api.Safe {
	now.Groups = append(now.Groups, mark)
	return now
}

// P8.2, P8.3: every trace of few ticks, with every lights of two groups.
func TestEveryShortTrace(t *testing.T) {
	var every [][]uint8
	for _, a := range "DRGYFx" {
		for _, b := range "DRGYFx" {
			every = append(every, lightsOf(string(a)+string(b)))
		}
	}
	for _, c := range []struct {
		s    api.Site
		deep int
	}{{two(), 7}, {near(), 6}, {free(), 5}} {
		told := map[uint8]int{}
		var visit func(p past, now api.Safe)
		visit = func(p past, now api.Safe) {
			if !sameStanding(now, p.standing()) {
				t.Fatalf("behind %v: %v, not %v", p.trace, now, p.standing())
			}
			for _, lights := range every {
				trace := append(slices.Clip(p.trace), lights)
				next, fault, e := Next(c.s, now, lights)
				if want := p.fault(lights); fault != want || e != api.OK {
					t.Fatalf("%v: %d, not %d", trace, fault, want)
				}
				told[fault]++
				at, first, e := Check(c.s, trace)
				if fault != api.FaultNone && (at != len(p.trace) || first != fault || e != api.OK) || fault == api.FaultNone && at != -1 {
					t.Fatalf("%v: %d, %d, %d", trace, at, first, e)
				}
				if fault == api.FaultNone && len(trace) < c.deep {
					visit(past{c.s, trace}, next)
				}
			}
		}
		now, _ := First(c.s)
		visit(past{s: c.s}, now)
		for _, fault := range []uint8{api.FaultNone, api.FaultFlash, api.FaultStart, api.FaultAspect} {
			if told[fault] == 0 {
				t.Error("never told", fault)
			}
		}
	}
}

// P8.2, P8.3, P8.5: traces of any sites, tick by tick: Next and Check tell what looking back tells, of lights with a fault and without.
func TestLongTraces(t *testing.T) {
	source := rand.New(rand.NewPCG(8, 6))
	told := map[uint8]int{}
	list := sites()
	for range 60 {
		list = append(list, anySite(source))
	}
	for _, s := range list {
		w := newWanderer(source, s)
		p, now := past{s: s}, slowFirst(s)
		for range 250 {
			lights := w.tick(func(lights []uint8) {
				fault := hold(t, s, now, lights)
				if want := p.fault(lights); fault != want {
					t.Fatalf("%v: %d, not %d", lights, fault, want)
				}
				told[fault]++
			})
			flash, fault, e := Next(s, now, all(s, api.Flash))
			if fault != api.FaultNone || e != api.OK || !flash.Flashed || flash.Start != slowGreatest(s) {
				t.Fatal("flash", now, flash, fault, e)
			}
			now, _, _ = Next(s, now, lights)
			p.trace = append(p.trace, lights)
			if !sameStanding(now, p.standing()) {
				t.Fatalf("behind %d ticks: %v, not %v", len(p.trace), now, p.standing())
			}
		}
		holdSafe(t, s, p.trace)
		if at, fault, e := Check(s, p.trace); at != -1 || fault != api.FaultNone || e != api.OK {
			t.Fatal(at, fault, e)
		}
	}
	for fault := range api.FaultStart + 1 {
		if told[fault] < 20 {
			t.Error("seldom told", fault, told)
		}
	}
}

// P8.3: Check tells what Next tells one by one, in the longest traces, wherever a fault is put.
func TestCheckIsNextOneByOne(t *testing.T) {
	source := rand.New(rand.NewPCG(8, 7))
	for _, s := range []api.Site{two(), three(), free(), crowded(), anySite(source), anySite(source)} {
		trace := wander(source, s, 4096)
		behind(t, s, trace)
		for range 40 {
			broken := cloneTrace(trace)
			for range 1 + source.IntN(3) {
				tick := source.IntN(len(broken))
				broken[tick][source.IntN(len(s.Groups))] = uint8(source.IntN(6))
			}
			wantAt, want := -1, api.FaultNone
			now, _ := First(s)
			for tick, lights := range broken {
				next, fault, e := Next(s, now, lights)
				if e != api.OK {
					t.Fatal(e)
				}
				if fault != api.FaultNone {
					wantAt, want = tick, fault
					break
				}
				now = next
			}
			if at, fault, e := Check(s, broken); at != wantAt || fault != want || e != api.OK {
				t.Fatal(at, fault, e, wantAt, want)
			}
		}
	}
}

// P8.5: each beginning of a trace without a fault has none; of one with a fault just those that end ahead of it have none. Flash may follow behind any of them.
func TestBeginnings(t *testing.T) {
	source := rand.New(rand.NewPCG(8, 8))
	for _, s := range []api.Site{two(), uneven(), free(), three(), crowded()} {
		trace := wander(source, s, 300)
		trace = append(trace, slices.Repeat([]uint8{api.Dark}, len(s.Groups)), all(s, api.Red))
		for n := range len(trace) + 1 {
			wantAt := -1
			if n > 300 {
				wantAt = 300
			}
			at, fault, e := Check(s, trace[:n])
			if at != wantAt || (fault == api.FaultNone) != (at == -1) || e != api.OK {
				t.Fatal(n, at, fault, e)
			}
			if n <= 300 {
				holdSafe(t, s, trace[:n])
				flash := append(slices.Clone(trace[:n]), all(s, api.Flash))
				if at, fault, e := Check(s, flash); at != -1 || fault != api.FaultNone || e != api.OK {
					t.Fatal(n, at, fault, e)
				}
			}
		}
	}
}

// P8.5 (W1): whatever lights are shown, the trace up to the first fault keeps apart what is apart.
func TestWhateverIsShown(t *testing.T) {
	source := rand.New(rand.NewPCG(8, 9))
	greens := 0
	for range 3000 {
		s := anySite(source)
		var trace [][]uint8
		now, _ := First(s)
		for range 60 {
			lights := make([]uint8, len(s.Groups))
			for i, g := range now.Groups {
				lights[i] = g.Aspect
				if now.Flashed || source.IntN(8*len(lights)) == 0 {
					lights[i] = api.Red
				}
				if source.IntN(2*len(lights)) == 0 {
					lights[i] = g.Aspect%3 + 1
				}
			}
			next, fault, _ := Next(s, now, lights)
			if fault != api.FaultNone {
				continue
			}
			now, trace = next, append(trace, lights)
			greens += many(lights, api.Green)
		}
		holdSafe(t, s, trace)
		if at, fault, e := Check(s, trace); at != -1 || fault != api.FaultNone || e != api.OK {
			t.Fatal(at, fault, e)
		}
	}
	if greens < 10000 {
		t.Error("few greens", greens)
	}
}
