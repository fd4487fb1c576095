package back

import (
	"math/rand/v2"
	"reflect"
	"slices"
	"testing"

	"stopline/api"
)

// tick is what was wanted and shown, and whether that was made to be wrong.
type tick struct {
	want, shown []uint8
	wrong       bool
}

// lampish makes ticks of a site, of which about one in so many is right.
type lampish struct {
	source *rand.Rand
	groups int
	right  int
}

func (l lampish) tick() tick {
	want := anyLights(l.source, l.groups)
	if l.source.IntN(l.right) == 0 {
		shown := slices.Clone(want)
		if l.source.IntN(2) == 0 {
			shown = nil
		}
		return tick{want, shown, false}
	}
	shown := slices.Clone(want)
	if l.source.IntN(2) == 0 {
		shown = anyLights(l.source, l.groups)
	}
	at := []int{0, l.groups - 1, l.source.IntN(l.groups)}[l.source.IntN(3)]
	shown[at] = (want[at] + 1 + uint8(l.source.IntN(4))) % 5
	return tick{want, shown, true}
}

// latchesBy tells by looking back alone whether the last Feed ticks were all wrong.
func latchesBy(history []bool, feed int) bool {
	if len(history) < feed {
		return false
	}
	return !slices.Contains(history[len(history)-feed:], false)
}

// P10.4, W2: lamps that are wrong for Feed ticks in a row latch at the last of them, and not ahead of it; a tick in which they are right begins anew.
func TestRunsLatchByTheirHistory(t *testing.T) {
	source := rand.New(rand.NewPCG(10, 2))
	latched, anew := 0, 0
	for range 400 {
		s := alike(1+source.IntN(api.MaxGroups), 1+source.IntN(12))
		l := lampish{source, len(s.Groups), 2 + source.IntN(20)}
		var history []bool
		n := 0
		for range 250 {
			c := l.tick()
			if wrong, e := Wrong(s, c.want, c.shown); wrong != c.wrong || e != api.OK {
				t.Fatal(c, wrong, e)
			}
			was := n
			var e api.Errno
			if n, e = Next(s, n, c.want, c.shown); e != api.OK {
				t.Fatal(e)
			}
			history = append(history, c.wrong)
			is, e := Latches(s, n)
			if want := latchesBy(history, s.Feed); is != want || e != api.OK {
				t.Fatalf("Feed %d, behind %v: count %d latches: %t", s.Feed, history, n, is)
			}
			if is {
				latched++
			}
			if was > 0 && n == 0 {
				anew++
			}
		}
	}
	if latched < 1000 || anew < 1000 {
		t.Error("few latched, or began anew", latched, anew)
	}
}

// P10.4: counted from 0, the first count that latches is that of tick Feed, for each of many Feeds; and behind one tick in which lamps are right it takes as many again.
func TestTheTickThatLatches(t *testing.T) {
	want, wrong := lightsOf("RG"), lightsOf("RD")
	for feed := 1; feed <= 200; feed++ {
		s := two()
		s.Feed = feed
		n := 0
		for _, right := range [][]uint8{want, nil, {}, want} {
			for tick := 1; tick <= feed+3; tick++ {
				n, _ = Next(s, n, want, wrong)
				if is, e := Latches(s, n); n != tick || is != (tick >= feed) || e != api.OK {
					t.Fatal(feed, tick, n, is, e)
				}
			}
			n, _ = Next(s, n, want, right)
			if is, e := Latches(s, n); n != 0 || is || e != api.OK {
				t.Fatal(feed, n, is, e)
			}
			for tick := 1; tick < feed; tick++ { // one too few, so that the next round begins anew behind these
				n, _ = Next(s, n, want, wrong)
				if is, _ := Latches(s, n); is {
					t.Fatal(feed, tick, n)
				}
			}
			n, _ = Next(s, n, want, right)
		}
	}
}

// P10.4, W8: with the greatest Feed that may be the count gets there, latches there and nowhere ahead, and stays.
func TestTheGreatestFeed(t *testing.T) {
	s := alike(1, top)
	want, wrong := lightsOf("R"), lightsOf("G")
	n := 0
	for tick := 1; tick <= top+1000; tick++ {
		var e api.Errno
		if n, e = Next(s, n, want, wrong); n != min(tick, top) || e != api.OK {
			t.Fatal(tick, n, e)
		}
		if is, e := Latches(s, n); is != (tick >= top) || e != api.OK {
			t.Fatal(tick, is, e)
		}
	}
	if n, e := Next(s, n, want, want); n != 0 || e != api.OK {
		t.Error(n, e)
	}
}

// spared is a list with spare room behind it, filled so that a write there is seen.
func spared[T any](list []T, mark T) []T {
	long := append(slices.Clone(list), mark, mark, mark)
	return long[:len(list)]
}

// roomy is a site with spare room behind each of its lists.
func roomy(s api.Site) api.Site {
	s.Groups, s.Apart, s.Phases = spared(s.Groups, api.Group{Min: 77}), spared(s.Apart, 77), spared(s.Phases, api.Phase{Min: 77})
	s.Between, s.Eyes, s.Plans = spared(s.Between, []int{77}), spared(s.Eyes, api.Eye{On: 77}), spared(s.Plans, api.Plan{Cycle: 77})
	for i := range s.Between {
		s.Between[i] = spared(s.Between[i], 77)
	}
	for i := range s.Plans {
		s.Plans[i].Splits = spared(s.Plans[i].Splits, 77)
	}
	return s
}

// whole is a copy of a site, of its lists' spare room too.
func whole(s api.Site) api.Site {
	s.Groups, s.Apart, s.Phases = full(s.Groups), full(s.Apart), full(s.Phases)
	s.Between, s.Eyes, s.Plans = full(s.Between), full(s.Eyes), full(s.Plans)
	for i := range s.Between {
		s.Between[i] = full(s.Between[i])
	}
	for i := range s.Plans {
		s.Plans[i].Splits = full(s.Plans[i].Splits)
	}
	return s
}

func full[T any](list []T) []T { return slices.Clone(list[:cap(list)]) }

// P10.3, R2: what is handed in is as it was behind each call, its spare room too, with an error and without; and the same call tells the same again.
func TestWhatIsHandedIn(t *testing.T) {
	broken := rich()
	broken.Feed = 0
	for i, s := range append(sites(), broken, api.Site{}) {
		s = roomy(s)
		was := whole(s)
		groups := len(s.Groups)
		lists := [][]uint8{nil, {}, make([]uint8, groups), slices.Repeat([]uint8{api.Green}, groups), slices.Repeat([]uint8{9}, groups), make([]uint8, groups+1)}
		for _, want := range lists {
			for _, shown := range lists {
				want, shown := spared(want, 77), spared(shown, 88)
				wanted, seen := full(want), full(shown)
				for _, n := range []int{-1, 0, 2, top, top + 1} {
					wrong, e := Wrong(s, want, shown)
					next, f := Next(s, n, want, shown)
					latches, g := Latches(s, n)
					if !slices.Equal(full(want), wanted) || !slices.Equal(full(shown), seen) || !reflect.DeepEqual(whole(s), was) {
						t.Fatal("changed", i, want, shown)
					}
					wrong2, e2 := Wrong(s, want, shown)
					next2, f2 := Next(s, n, want, shown)
					latches2, g2 := Latches(s, n)
					if wrong != wrong2 || e != e2 || next != next2 || f != f2 || latches != latches2 || g != g2 {
						t.Fatal("told otherwise", i, want, shown)
					}
				}
			}
		}
	}
}

// P10.3: one list handed in as both, and two that share memory, are told of as any others.
func TestListsThatShare(t *testing.T) {
	long := lightsOf("RGRGG")
	for i, c := range []struct {
		want, shown []uint8
		wrong       bool
	}{{long[:2], long[:2], false}, {long[:2], long[2:4], false}, {long[:2], long[1:3], true}, {long[1:3], long[:2], true}, {long[:2], long[3:], true}, {long[:2], long[:0], false}} {
		if wrong, e := Wrong(two(), c.want, c.shown); wrong != c.wrong || e != api.OK {
			t.Error(i, wrong, e)
		}
	}
	if string(long) != string(lightsOf("RGRGG")) {
		t.Error(long)
	}
}
