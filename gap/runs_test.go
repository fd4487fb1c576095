package gap

import (
	"math/rand/v2"
	"slices"
	"testing"

	"stopline/api"
)

// runsOf is how many runs of up there are.
func runsOf(list []bool) int {
	many := 0
	for i, up := range list {
		if up && (i == 0 || !list[i-1]) {
			many++
		}
	}
	return many
}

// lastRun is how long the run at the end is.
func lastRun(list []bool) int {
	for i, up := range slices.Backward(list) {
		if up != list[len(list)-1] {
			return len(list) - 1 - i
		}
	}
	return len(list)
}

// upIn is how many of the last so many ticks are up; ahead of the first one nothing stood there.
func upIn(list []bool, window int) int {
	many := 0
	for _, up := range list[max(0, len(list)-window):] {
		if up {
			many++
		}
	}
	return many
}

// holdFromNothing asks P12.3 of the gaps that come from nothing behind these ticks.
func holdFromNothing(t *testing.T, g api.Gapped, list []bool) {
	t.Helper()
	up := len(list) > 0 && list[len(list)-1]
	held, open := 0, lastRun(list)
	if up {
		held, open = open, 0
	}
	if g.Up != up || g.Held != held || g.Open != open || g.Came != runsOf(list) || !slowMayBe(g) {
		t.Fatal(told(list), g, held, open, runsOf(list))
	}
}

// holdSharesOf asks it of the shares of all windows.
func holdSharesOf(t *testing.T, g api.Gapped, list []bool) {
	t.Helper()
	for window := 1; window <= 64; window++ {
		x, e := Share(g, window)
		if x != int64(upIn(list, window)*65536/window) || x < 0 || x > api.Unit || e != api.OK {
			t.Fatal(told(list), window, x, e)
		}
	}
}

// holdPastOf asks it of what is past: of the last gap ticks none is up, and there were so many.
func holdPastOf(t *testing.T, g api.Gapped, list []bool) {
	t.Helper()
	for gap := range len(list) + 2 {
		want := !g.Up && gap <= len(list) && upIn(list, gap) == 0
		if is, e := Past(g, gap); is != want || e != api.OK {
			t.Fatal(told(list), gap, is, e)
		}
	}
}

// P12.3: every short list of ticks, from nothing on.
func TestEveryShortRun(t *testing.T) {
	for _, list := range every(13) {
		g := after(t, api.Gapped{}, list)
		holdFromNothing(t, g, list)
		holdSharesOf(t, g, list)
		holdPastOf(t, g, list)
	}
}

// P12.3: many long lists, tick by tick, whose runs are shorter and longer than the ticks that are remembered.
func TestLongRuns(t *testing.T) {
	source := rand.New(rand.NewPCG(12, 2))
	for range 60 {
		list := spells(source, source.IntN(500), 1+source.IntN(100))
		g := api.Gapped{}
		for i, up := range list {
			was, e := g, api.OK
			if g, e = Next(g, up); e != api.OK {
				t.Fatal(told(list[:i+1]), g, e)
			}
			if want, _ := slowNext(was, up); g != want {
				t.Fatal(told(list[:i+1]), g, want)
			}
			holdFromNothing(t, g, list[:i+1])
			holdSharesOf(t, g, list[:i+1])
		}
		holdPastOf(t, g, list)
	}
	for range 40 {
		list := spells(source, 20000, 1+source.IntN(3000))
		g := after(t, api.Gapped{}, list)
		holdFromNothing(t, g, list)
		holdSharesOf(t, g, list)
	}
}

// P12.3: behind 64 ticks nothing of before is in Last, whatever stood there.
func TestWhatIsForgotten(t *testing.T) {
	source := rand.New(rand.NewPCG(12, 3))
	for range 200 {
		list := spells(source, 64, 1+source.IntN(20))
		want := after(t, api.Gapped{}, list)
		for _, last := range lasts() {
			g := after(t, api.Gapped{Up: last&1 != 0, Last: last}, list)
			if g.Last != want.Last || g.Up != want.Up {
				t.Fatal(last, told(list), g, want)
			}
			holdSharesOf(t, g, list)
		}
	}
}

// P12.1, P12.3, W8: Held and Open grow tick by tick up to MaxTicks, and stay there while the rest goes on.
func TestUpToMaxTicksAndPastIt(t *testing.T) {
	for _, up := range []bool{false, true} {
		g := api.Gapped{}
		for i := range top + 100 {
			var e api.Errno
			g, e = Next(g, up)
			want := api.Gapped{Open: min(i+1, top)}
			if up {
				want = api.Gapped{Up: true, Held: min(i+1, top), Came: 1, Last: allSet}
				if i < 63 {
					want.Last = 1<<(i+1) - 1
				}
			}
			if g != want || e != api.OK {
				t.Fatal(i, up, g, want, e)
			}
		}
		if is, e := Past(g, top); is == up || e != api.OK {
			t.Error(up, is, e)
		}
		other := after(t, g, []bool{!up})
		if other.Up == up || other.Held+other.Open != 1 || other.Came != 1 {
			t.Error(up, other)
		}
	}
}

// P12.1, P12.3, W8: Came stops at MaxCounter, while the rest goes on as it does from any other Came.
func TestCameAtItsBound(t *testing.T) {
	source := rand.New(rand.NewPCG(12, 4))
	for short := range 20 {
		for range 20 {
			list := spells(source, 300, 1+source.IntN(40))
			g := after(t, api.Gapped{Came: most - short}, list)
			want := after(t, api.Gapped{}, list)
			want.Came = min(most-short+want.Came, most)
			if g != want {
				t.Fatal(short, told(list), g, want)
			}
		}
	}
}

// W8: from gaps of all kinds that may be, over ticks of all kinds, they may be for good.
func TestTheyMayBeForGood(t *testing.T) {
	source := rand.New(rand.NewPCG(12, 5))
	for _, first := range well() {
		g := first
		for _, up := range spells(source, 30, 1+source.IntN(6)) {
			want, _ := slowNext(g, up)
			next, e := Next(g, up)
			if next != want || e != api.OK || !slowMayBe(next) {
				t.Fatal(first, g, up, next, e)
			}
			g = next
		}
	}
}
