package gate

import (
	"math/rand/v2"
	"reflect"
	"slices"
	"testing"

	"stopline/api"
	"stopline/safe"
)

// asker asks for phases that come and go, with anything among them.
type asker struct {
	source *rand.Rand
	s      api.Site
	phase  int
	wild   int // one of so many asks is of any aspect
}

func (a *asker) tick() []uint8 {
	if a.source.IntN(9) == 0 {
		a.phase = a.source.IntN(len(a.s.Phases))
	}
	if a.source.IntN(80) == 0 {
		return all(a.s, api.Flash)
	}
	asks := all(a.s, api.Red)
	for i := range asks {
		if a.s.Phases[a.phase].Groups>>uint(i)%2 == 1 {
			asks[i] = api.Green
		}
		if a.source.IntN(a.wild) == 0 {
			asks[i] = []uint8{api.Dark, api.Red, api.Green, api.Green, api.Yellow, api.Flash, 5, 255}[a.source.IntN(8)]
		}
	}
	return asks
}

func (a *asker) ticks(many int) [][]uint8 {
	var list [][]uint8
	for range many {
		list = append(list, a.tick())
	}
	return list
}

// slowRun is what Run must tell: what the chapter's words let through, tick by tick.
func slowRun(t *testing.T, s api.Site, asks [][]uint8) [][]uint8 {
	t.Helper()
	now, e := safe.First(s)
	var trace [][]uint8
	for _, tick := range asks {
		lights := slowLet(s, now, tick)
		next, fault, f := safe.Next(s, now, lights)
		if e != api.OK || f != api.OK || fault != api.FaultNone {
			t.Fatal(now, lights, fault, e, f)
		}
		now, trace = next, append(trace, lights)
	}
	return trace
}

// holdSafe holds W1 against a trace: what it says is asked of the trace itself, without package safe.
func holdSafe(t *testing.T, s api.Site, trace [][]uint8) {
	t.Helper()
	for _, q := range apartPairs(s) {
		ended := -1 // the last tick of the first one's green; -1, if flash came since, or there was none
		for tick, lights := range trace {
			one, other := lights[q[0]], lights[q[1]]
			if many(lights, api.Flash) == len(lights) {
				ended = -1
				continue
			}
			if one != api.Red && other != api.Red {
				t.Fatalf("groups %v meet in tick %d", q, tick)
			}
			begins := other == api.Green && (tick == 0 || trace[tick-1][q[1]] != api.Green)
			if begins && ended >= 0 && tick-ended-1 < s.Between[q[0]][q[1]] {
				t.Fatalf("groups %v: %d ticks between, in tick %d", q, tick-ended-1, tick)
			}
			if one == api.Green {
				ended = tick
			}
		}
	}
	for i, g := range s.Groups {
		holdLengths(t, g, i, trace)
	}
	holdReds(t, s, trace)
}

// holdLengths holds how long each green and each yellow of a group lasts, unless flash cuts it short or the trace ends.
func holdLengths(t *testing.T, g api.Group, i int, trace [][]uint8) {
	t.Helper()
	was, since := api.Red, 1
	for tick, lights := range trace {
		aspect := lights[i]
		if aspect == was {
			since++
			continue
		}
		switch [2]uint8{was, aspect} {
		case [2]uint8{api.Red, api.Green}, [2]uint8{api.Flash, api.Red}:
		case [2]uint8{api.Green, api.Yellow}:
			if since < g.Min {
				t.Fatalf("group %d: green for %d ticks, up to tick %d", i, since, tick)
			}
		case [2]uint8{api.Yellow, api.Red}:
			if since != g.Yellow {
				t.Fatalf("group %d: yellow for %d ticks, up to tick %d", i, since, tick)
			}
		default:
			if aspect != api.Flash {
				t.Fatalf("group %d: %d behind %d, in tick %d", i, aspect, was, tick)
			}
		}
		was, since = aspect, 1
	}
}

// holdReds holds that all flash or none, and that from the start on and behind flash all are red for long enough.
func holdReds(t *testing.T, s api.Site, trace [][]uint8) {
	t.Helper()
	left := slowGreatest(s)
	for tick, lights := range trace {
		switch flashes := many(lights, api.Flash); {
		case flashes == len(lights):
			left = max(slowGreatest(s), 1)
			continue
		case flashes > 0:
			t.Fatalf("%d of the groups flash in tick %d", flashes, tick)
		case left > 0 && many(lights, api.Red) < len(lights):
			t.Fatalf("%v in tick %d", lights, tick)
		}
		left = max(left-1, 0)
	}
}

// P9.3: what is let through, tick by tick.
func TestRun(t *testing.T) {
	for i, c := range []struct {
		s          api.Site
		asks, want [][]uint8
	}{
		{two(), nil, nil}, {two(), [][]uint8{}, nil}, {two(), traceOf("RR"), traceOf("RR")}, {two(), traceOf("FF"), traceOf("FF")}, {two(), traceOf("GG"), traceOf("RR")}, {two(), traceOf("zD"), traceOf("RR")},
		{two(), traceOf("RR", "RR", "RG", "RG", "GG", "GR", "GR", "GR", "GR"), traceOf("RR", "RR", "RG", "RG", "RG", "RY", "RR", "GR", "GR")},
		{two(), traceOf("RR", "RR", "GR", "RR", "RR", "RR"), traceOf("RR", "RR", "GR", "GR", "YR", "RR")},
		{two(), traceOf("GR", "GR", "GR", "FF", "GR", "GR", "GR"), traceOf("RR", "RR", "GR", "FF", "RR", "RR", "GR")},
		{two(), traceOf("FF", "FF", "FR", "FF", "RG", "RG", "RG"), traceOf("FF", "FF", "RR", "FF", "RR", "RR", "RG")},
		{two(), traceOf("GR", "GR", "GR", "RG", "GR", "RR", "GR", "RG", "GG"), traceOf("RR", "RR", "GR", "GR", "GR", "YR", "RR", "RG", "RG")},
		{two(), traceOf("GR", "GR", "GR", "GR", "RR", "GR", "GG"), traceOf("RR", "RR", "GR", "GR", "YR", "RR", "GR")},
		{near(), traceOf("GG", "GG", "RG", "RG", "GR", "GR"), traceOf("RR", "GR", "YR", "RG", "RY", "GR")},
		{free(), traceOf("GG", "RR", "RR", "RR"), traceOf("GG", "GG", "YY", "RR")},
		{free(), traceOf("FF", "GG", "GG"), traceOf("FF", "RR", "GG")},
		{alone(), traceOf("G", "R", "G", "R", "R", "G"), traceOf("G", "G", "G", "Y", "R", "G")},
		{slow(), traceOf("RR", "RR", "RR", "RR", "RR", "GR", "RG", "RG", "RG", "RG", "RG", "RG", "RG", "RG", "RG"), traceOf("RR", "RR", "RR", "RR", "RR", "GR", "GR", "GR", "GR", "YR", "YR", "YR", "RR", "RR", "RG")},
		{three(), slices.Repeat(traceOf("GGG"), 8), append(slices.Repeat(traceOf("RRR"), 6), traceOf("GRG", "GRG")...)},
	} {
		if got, e := Run(c.s, c.asks); e != api.OK || !sameTrace(got, c.want) {
			t.Error(i, got, e)
		}
	}
}

// P9.3: as many ticks as may be, and one more, which is told ahead of what is asked in them.
func TestHowLongARunMayBe(t *testing.T) {
	asks := slices.Repeat(traceOf("GG"), 4096)
	want := append(traceOf("RR", "RR"), slices.Repeat(traceOf("GR"), 4094)...)
	if got, e := Run(two(), asks); e != api.OK || !sameTrace(got, want) {
		t.Error(len(got), e)
	}
	for _, more := range [][][]uint8{append(slices.Clone(asks), lightsOf("GG")), make([][]uint8, 4097), make([][]uint8, 100000), append(slices.Clone(asks), nil)} {
		if got, e := Run(two(), more); e != api.ErrMany || len(got) != 0 {
			t.Error(len(more), len(got), e)
		}
	}
	if got, e := Run(two(), make([][]uint8, 4096)); e != api.ErrAsk || len(got) != 0 {
		t.Error(len(got), e)
	}
}

// P9.3: a tick with too few or too many asks, wherever it stands.
func TestRunsWithTicksThatAreNotAsMany(t *testing.T) {
	for _, s := range []api.Site{two(), alone(), three(), crowded()} {
		for _, long := range []int{1, 2, 50, 4096} {
			for _, at := range []int{0, long / 2, long - 1} {
				for _, n := range []int{0, len(s.Groups) - 1, len(s.Groups) + 1, 32} {
					asks := slices.Repeat([][]uint8{all(s, api.Flash)}, long)
					asks[at] = slices.Repeat([]uint8{api.Flash}, n)
					if got, e := Run(s, asks); e != api.ErrAsk || len(got) != 0 {
						t.Error(len(s.Groups), long, at, n, len(got), e)
					}
				}
			}
		}
	}
	for _, asks := range [][][]uint8{{nil}, {{}}, traceOf("R"), traceOf("RRR"), traceOf("R", "RRR"), traceOf("RR", ""), traceOf("RRR", "RR")} {
		if got, e := Run(two(), asks); e != api.ErrAsk || len(got) != 0 {
			t.Error(asks, got, e)
		}
	}
}

// P9.3, P9.5: long runs of any sites: what Run tells is what Admit lets through tick by tick, and has no fault, whatever is asked.
func TestLongRuns(t *testing.T) {
	source := rand.New(rand.NewPCG(9, 3))
	list := sites()
	for range 60 {
		list = append(list, anySite(source))
	}
	shown := map[uint8]int{}
	for _, s := range list {
		for _, wild := range []int{1, 4, 60} {
			a := asker{source: source, s: s, wild: wild}
			asks := a.ticks(200)
			trace, e := Run(s, asks)
			if want := slowRun(t, s, asks); e != api.OK || !sameTrace(trace, want) {
				t.Fatal(e, trace, want)
			}
			now, _ := safe.First(s)
			for tick, lights := range trace {
				if got := hold(t, s, now, asks[tick]); !slices.Equal(got, lights) {
					t.Fatal(tick, got, lights)
				}
				if tick%8 == 0 {
					holdOpens(t, s, now)
				}
				now, _, _ = safe.Next(s, now, lights)
				for aspect := range api.Flash + 1 {
					shown[aspect] += many(lights, aspect)
				}
			}
			if at, fault, e := safe.Check(s, trace); at != -1 || fault != api.FaultNone || e != api.OK {
				t.Fatal(at, fault, e)
			}
			holdSafe(t, s, trace)
		}
	}
	for _, aspect := range []uint8{api.Red, api.Green, api.Yellow, api.Flash} {
		if shown[aspect] < 1000 {
			t.Error("seldom shown", aspect, shown)
		}
	}
	if shown[api.Dark] > 0 {
		t.Error("dark", shown)
	}
}

// P9.5: the longest runs have no fault, and the beginning of a run is the run of a beginning.
func TestLongestRuns(t *testing.T) {
	source := rand.New(rand.NewPCG(9, 4))
	for _, s := range []api.Site{two(), slow(), three(), free(), crowded(), anySite(source), anySite(source), anySite(source)} {
		a := asker{source: source, s: s, wild: 6}
		asks := a.ticks(4096)
		trace, e := Run(s, asks)
		if at, fault, f := safe.Check(s, trace); e != api.OK || len(trace) != 4096 || at != -1 || fault != api.FaultNone || f != api.OK {
			t.Fatal(e, len(trace), at, fault, f)
		}
		holdSafe(t, s, trace)
		for range 20 {
			n := source.IntN(4096)
			if got, e := Run(s, asks[:n]); e != api.OK || !sameTrace(got, trace[:n]) {
				t.Fatal(n, e)
			}
		}
	}
}

// P9.5: a trace without a fault, asked, is let through as it is.
func TestWhatHasNoFaultIsLetThrough(t *testing.T) {
	source := rand.New(rand.NewPCG(9, 5))
	list := sites()
	for range 100 {
		list = append(list, anySite(source))
	}
	odd := 0
	for _, s := range list {
		now, _ := safe.First(s)
		var trace [][]uint8
		for range 300 {
			lights := make([]uint8, len(s.Groups))
			for i, g := range now.Groups {
				lights[i] = g.Aspect
				if source.IntN(2*len(lights)) == 0 {
					lights[i] = g.Aspect%3 + 1
				}
			}
			if now.Flashed {
				lights = all(s, api.Red)
			}
			if source.IntN(50) == 0 {
				lights = all(s, api.Flash)
			}
			next, fault, e := safe.Next(s, now, lights)
			if e != api.OK {
				t.Fatal(e)
			}
			got := hold(t, s, now, lights)
			if slices.Equal(got, lights) != (fault == api.FaultNone) {
				t.Fatalf("%v behind %v: %v, and fault %d", lights, now, got, fault)
			}
			if fault != api.FaultNone {
				odd++
				next, _, _ = safe.Next(s, now, got)
				lights = got
			}
			now, trace = next, append(trace, lights)
		}
		if got, e := Run(s, trace); e != api.OK || !sameTrace(got, trace) {
			t.Fatal("not as it is", e)
		}
	}
	if odd < 1000 {
		t.Error("few with a fault", odd)
	}
}

// P9.5: every short run of two groups: whatever is asked has no fault, and is let through as it is just if it had none.
func TestEveryShortRun(t *testing.T) {
	var every [][]uint8
	for _, a := range "RGYFD" {
		for _, b := range "RGYFD" {
			every = append(every, lightsOf(string(a)+string(b)))
		}
	}
	for _, c := range []struct {
		s    api.Site
		deep int
	}{{two(), 7}, {near(), 7}, {free(), 5}} {
		seen := map[string]bool{}
		var visit func(trace [][]uint8, now api.Safe)
		visit = func(trace [][]uint8, now api.Safe) {
			for _, asks := range every {
				lights := hold(t, c.s, now, asks)
				asked := append(slices.Clip(trace), asks)
				got, e := Run(c.s, asked)
				if e != api.OK || !sameTrace(got[:len(trace)], trace) || !slices.Equal(got[len(trace)], lights) {
					t.Fatal(asked, got, e)
				}
				told := append(slices.Clip(trace), lights)
				name := string(slices.Concat(told...))
				if len(told) < c.deep && !seen[name] {
					seen[name] = true
					next, _, _ := safe.Next(c.s, now, lights)
					visit(told, next)
				}
			}
		}
		now, _ := safe.First(c.s)
		visit(nil, now)
	}
}

// P9.6: what is let through of a group does not change with what is asked of red ones behind it, nor with what is asked of any but itself, if it is not red. (Flash of all is let through of all: it hangs on all.)
func TestWhatAGroupHangsOn(t *testing.T) {
	source := rand.New(rand.NewPCG(9, 6))
	changed := 0
	list := sites()
	for range 40 {
		list = append(list, anySite(source))
	}
	for _, s := range list {
		a := asker{source: source, s: s, wild: 3}
		now, _ := safe.First(s)
		for range 150 {
			asks := a.tick()
			lights := hold(t, s, now, asks)
			for it, g := range now.Groups {
				other := slices.Clone(asks)
				for that, seen := range now.Groups {
					behind := that > it && seen.Aspect == api.Red
					if that != it && (behind || g.Aspect != api.Red) {
						other[that] = []uint8{api.Dark, api.Red, api.Green, api.Green, api.Yellow, api.Flash, 255}[source.IntN(7)]
					}
				}
				if many(asks, api.Flash) == len(asks) || many(other, api.Flash) == len(other) {
					continue
				}
				got := hold(t, s, now, other)
				if got[it] != lights[it] {
					t.Fatalf("group %d behind %v: %v asked, %v; %v asked, %v", it, now, asks, lights, other, got)
				}
				if !slices.Equal(got, lights) {
					changed++
				}
			}
			now, _, _ = safe.Next(s, now, lights)
		}
	}
	if changed < 1000 {
		t.Error("few changed anything", changed)
	}
}

// P9.6: what is asked of one ahead, and of one that is not red, is what a red one hangs on.
func TestWhatARedGroupHangsOn(t *testing.T) {
	holdAdmits(t, two(), []admitCase{
		{stands("RR", 9, 9), "GG", "GR"}, {stands("RR", 9, 9), "RG", "RG"},
		{stands("RR", 9, 9), "GR", "GR"}, // not what is asked of one behind
	})
	holdAdmits(t, three(), []admitCase{
		{stands("RRY", 3, 9), "RGR", "RGR"}, {stands("RRG", 9, 9), "RGR", "RRY"}, {stands("RRG", 9, 9), "RGG", "RRG"},
	})
}

// spared is a list with spare room behind it, filled so that a write there is seen.
func spared[T any](list []T, mark T) []T {
	long := append(slices.Clone(list), mark, mark, mark)
	return long[:len(list)]
}

// spareIsKept tells whether nothing was written behind such a list.
func spareIsKept[T comparable](list []T, mark T) bool {
	long := list[:len(list)+3]
	return long[len(list)] == mark && long[len(list)+1] == mark && long[len(list)+2] == mark
}

// P9.4: what is handed in is as it was behind Admit and Open, its spare room too, and what is answered shares nothing with it.
func TestMemoryOfAdmitAndOpen(t *testing.T) {
	mark := api.Seen{Aspect: 77, Since: 77, Ended: 77}
	for _, s := range []api.Site{two(), free(), three(), crowded()} {
		was := cloneSite(s)
		green := readied(s)
		green.Groups[0] = api.Seen{Aspect: api.Green, Since: 9}
		for _, now := range []api.Safe{readied(s), starting(readied(s), 2), green, flashed(stands("FFFFFFFFFFFFFFFF"[:len(s.Groups)], 1, 1)), {}} {
			for _, asks := range [][]uint8{all(s, api.Red), all(s, api.Green), all(s, api.Flash), all(s, api.Dark), nil} {
				now.Groups = spared(now.Groups, mark)
				handed := spared(asks, 77)
				stood, asked := cloneStanding(now), slices.Clone(asks)
				lights, e := Admit(s, now, handed)
				told := slices.Clone(lights)
				for i := range lights {
					lights[i] = 88
				}
				_ = append(lights, 88)
				Open(s, now, 0)
				Open(s, now, len(s.Groups)-1)
				Open(s, now, -1)
				if !sameStanding(now, stood) || !slices.Equal(handed, asked) || !spareIsKept(now.Groups, mark) || !spareIsKept(handed, 77) || !reflect.DeepEqual(s, was) {
					t.Error("handed in", now, handed)
				}
				again, f := Admit(s, now, handed)
				for i := range handed {
					handed[i] = 99
				}
				for i := range now.Groups {
					now.Groups[i] = mark
				}
				if !slices.Equal(again, told) || e != f {
					t.Error("answered", again, told, e, f)
				}
				now = stood
			}
		}
	}
}

// P9.4: the same of Run; and no two ticks of what it tells share anything, though those that are asked do.
func TestMemoryOfRun(t *testing.T) {
	for _, s := range []api.Site{two(), free(), three(), crowded()} {
		was := cloneSite(s)
		source := rand.New(rand.NewPCG(9, 7))
		a := asker{source: source, s: s, wild: 5}
		for _, asks := range [][][]uint8{a.ticks(80), slices.Repeat([][]uint8{all(s, api.Flash)}, 5), slices.Repeat([][]uint8{all(s, api.Green)}, 20), append(a.ticks(5), nil)} {
			for i := range asks {
				asks[i] = spared(asks[i], 77)
			}
			one := lightsOf("DDD")
			asks = spared(asks, one)
			asked := cloneTrace(asks)
			trace, e := Run(s, asks)
			told := cloneTrace(trace)
			for i := range trace {
				for k := range trace[i] {
					trace[i][k] = 88
				}
				_ = append(trace[i], 88)
				for k := i + 1; k < len(trace); k++ {
					if !slices.Equal(trace[k], told[k]) {
						t.Fatal("ticks share memory", i, k)
					}
				}
			}
			_ = append(trace, one)
			if !sameTrace(asks, asked) || &asks[:len(asks)+1][len(asks)][0] != &one[0] || !reflect.DeepEqual(s, was) {
				t.Error("handed in", asks)
			}
			for _, tick := range asks {
				if !spareIsKept(tick, 77) {
					t.Error("spare room", tick)
				}
			}
			again, f := Run(s, asks)
			for i := range asks {
				for k := range asks[i] {
					asks[i][k] = 99
				}
			}
			if !sameTrace(again, told) || e != f {
				t.Error("answered", e, f)
			}
		}
	}
}
