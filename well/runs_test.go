package well

import (
	"math/rand/v2"
	"slices"
	"testing"

	"stopline/api"
)

// every is all lists of up to so many ticks.
func every(longest int) [][]bool {
	list := [][]bool{{}}
	for at := 0; at < len(list); at++ {
		if len(list[at]) < longest {
			list = append(list, append(slices.Clip(list[at]), false), append(slices.Clip(list[at]), true))
		}
	}
	return list
}

// spells is ticks in spells of the same, each of up to so many.
func spells(source *rand.Rand, many, longest int) []bool {
	list := make([]bool, 0, many)
	got := source.IntN(2) == 0
	for len(list) < many {
		long := min(1+source.IntN(longest), many-len(list))
		list = append(list, slices.Repeat([]bool{got}, long)...)
		got = !got
	}
	return list
}

// holdSharesOf asks P21.2 and P21.3 of all windows behind these ticks; ahead of the first one nothing came.
func holdSharesOf(t *testing.T, w api.Well, list []bool) {
	t.Helper()
	for window := 1; window <= 64; window++ {
		many := gotIn(list[max(0, len(list)-window):])
		x, e := Share(w, window)
		if x != int64(many*65536/window) || x < 0 || x > api.Unit || e != api.OK {
			t.Fatal(told(list), window, x, e)
		}
		if is, e := Poor(w, window, 0); is || e != api.OK {
			t.Fatal(told(list), window, is, e)
		}
		// One whole is missed as soon as one tick is.
		if is, e := Poor(w, window, api.Unit); is != (many < window) || e != api.OK {
			t.Fatal(told(list), window, is, e)
		}
	}
}

// P21.1 to P21.3: every short list of ticks, from nothing on.
func TestEveryShortRun(t *testing.T) {
	for _, list := range every(12) {
		holdSharesOf(t, after(api.Well{}, list), list)
	}
}

// P21.1 to P21.3: many long lists, tick by tick, whose spells are shorter and longer than the ticks that are remembered.
func TestLongRuns(t *testing.T) {
	source := rand.New(rand.NewPCG(21, 2))
	for range 60 {
		list := spells(source, source.IntN(500), 1+source.IntN(100))
		w := api.Well{}
		for i, got := range list {
			was := w
			if w = Next(w, got); w != slowNext(was, got) {
				t.Fatal(told(list[:i+1]), w)
			}
			holdSharesOf(t, w, list[:i+1])
		}
	}
	for range 40 {
		list := spells(source, 20000, 1+source.IntN(3000))
		holdSharesOf(t, after(api.Well{}, list), list)
	}
}

// P21.3: behind 64 ticks nothing of before counts, behind 63 the newest tick of before still does.
func TestWhatIsForgotten(t *testing.T) {
	source := rand.New(rand.NewPCG(21, 3))
	for range 40 {
		list := spells(source, 64, 1+source.IntN(20))
		want, short := after(api.Well{}, list), after(api.Well{}, list[1:])
		for _, w := range lasts() {
			if x := after(w, list); x != want {
				t.Fatal(w, told(list), x, want)
			}
			if x := after(w, list[1:]); (x != short) != (w.Bits%2 == 1) {
				t.Fatal(w, told(list), x, short)
			}
		}
		holdSharesOf(t, want, list)
	}
}

// P21.3: a tick more in which something came never makes the share less than one in which nothing did; it makes it more by that tick alone.
func TestATickMore(t *testing.T) {
	for _, w := range lasts() {
		with, without := Next(w, true), Next(w, false)
		for window := 1; window <= 64; window++ {
			more, e := Share(with, window)
			less, f := Share(without, window)
			if more < less || more-less < int64(65536/window) || more-less > int64(65536/window)+1 || e != api.OK || f != api.OK {
				t.Fatal(w, window, more, less, e, f)
			}
		}
	}
}

// P21.3: it stays so however the ticks go on: the one of two links that more came over is never the poorer one.
func TestMoreThatCame(t *testing.T) {
	source := rand.New(rand.NewPCG(21, 4))
	for range 60 {
		more, less := api.Well{}, api.Well{}
		for _, got := range spells(source, 200, 1+source.IntN(20)) {
			more, less = Next(more, got || source.IntN(3) == 0), Next(less, got)
			for window := 1; window <= 64; window++ {
				x, _ := Share(more, window)
				y, _ := Share(less, window)
				is, _ := Poor(more, window, y)
				if x < y || is {
					t.Fatal(more, less, window, x, y, is)
				}
			}
		}
	}
}

// P21.3: nothing is poor by a bound of 0, and what is not poor by a bound is not by a lower one.
func TestBoundsInTheirOrder(t *testing.T) {
	source := rand.New(rand.NewPCG(21, 5))
	for _, w := range lasts() {
		window := 1 + source.IntN(64)
		was := false
		for bound := int64(0); bound <= api.Unit; bound += 509 {
			is, e := Poor(w, window, bound)
			if e != api.OK || was && !is || bound == 0 && is {
				t.Fatal(w, window, bound, is, e)
			}
			was = is
		}
	}
}
