package eye

import (
	"math/rand/v2"
	"slices"
	"testing"

	"stopline/api"
)

// What a detector is, told from the ticks alone, from all zero on.

// sameFor is for how many ticks in a row the tick at has said the same.
func sameFor(list []bool, at int) int {
	many := 1
	for at-many >= 0 && list[at-many] == list[at] {
		many++
	}
	return many
}

// turnedAt tells whether the tick at says another thing than the one ahead of it; ahead of the first one nothing was up.
func turnedAt(list []bool, at int) bool {
	if at == 0 {
		return list[0]
	}
	return list[at] != list[at-1]
}

// turnsIn is how often it turned in the last 64 ticks.
func turnsIn(list []bool, at int) int {
	many := 0
	for k := max(0, at-63); k <= at; k++ {
		if turnedAt(list, k) {
			many++
		}
	}
	return many
}

// illAt tells whether the tick at comes to a bound.
func illAt(eye api.Eye, list []bool, at int) bool {
	same := min(sameFor(list, at), 1048576)
	if list[at] && same >= eye.On || !list[at] && same >= eye.Off {
		return true
	}
	return turnsIn(list, at) > eye.Turns
}

// holdFrom asks P13.4 of ticks from all zero on: it is not believed just if one of the last Heal ticks came to a bound, and wanted where it is not believed; the rest of what stands there follows, too. It tells how many ticks were believed behind ones that were not.
func holdFrom(t *testing.T, s api.Site, i int, list []bool) int {
	t.Helper()
	x, lastIll, healed := api.Looked{}, -1, 0
	for at, up := range list {
		was := x
		var e api.Errno
		if x, e = Next(s, i, x, up); e != api.OK || !slowMayBe(x) || x != slowLater(s, i, was, up) {
			t.Fatal(s.Eyes[i], s.Heal, told(list[:at+1]), was, x, e)
		}
		if illAt(s.Eyes[i], list, at) {
			lastIll = at
		}
		bad := lastIll >= 0 && at-lastIll < s.Heal
		well := 0
		if bad {
			well = at - lastIll
		}
		if x.Up != up || x.Bad != bad || x.Well != well || Believed(x) != !bad || Wants(x) != (up || bad) {
			t.Fatal(s.Eyes[i], s.Heal, told(list[:at+1]), x, "bad", bad, "well", well)
		}
		if x.Same != min(sameFor(list, at), 1048576) || (x.Same == 1) != (at == 0 || turnedAt(list, at)) || (x.Turns%2 == 1) != turnedAt(list, at) {
			t.Fatal(told(list[:at+1]), x)
		}
		if was.Bad && !x.Bad {
			healed++
		}
	}
	return healed
}

// longest are the lists of just so many ticks.
func longest(many int) [][]bool {
	return slices.DeleteFunc(every(many), func(list []bool) bool { return len(list) < many })
}

// P13.4, P13.1: over every short list of ticks, with every small bound and Heal.
func TestEveryShortList(t *testing.T) {
	lists, healed := longest(8), 0
	for _, on := range []int{1, 2, 3, 4, 9} {
		for _, off := range []int{1, 2, 4, 9} {
			for _, turns := range []int{1, 2, 3, 64} {
				for _, heal := range []int{1, 2, 3, 5} {
					s := crossing(heal, api.Eye{On: on, Off: off, Turns: turns})
					for _, list := range lists {
						healed += holdFrom(t, s, 0, list)
					}
				}
			}
		}
	}
	for _, list := range longest(13) {
		healed += holdFrom(t, crossing(4, api.Eye{On: 3, Off: 9, Turns: 2}), 0, list)
	}
	if healed == 0 {
		t.Error("none was believed again")
	}
}

// P13.4: over many long lists, with spells of any length, so long that turns are forgotten.
func TestManyLongLists(t *testing.T) {
	source := rand.New(rand.NewPCG(13, 4))
	healed := 0
	for k := range 400 {
		list := spells(source, 400, []int{1, 2, 3, 5, 9, 20, 60, 100, 300}[k%9])
		eyes := []api.Eye{
			{On: 1 + source.IntN(40), Off: 1 + source.IntN(40), Turns: 1 + source.IntN(64)},
			{On: 1 + source.IntN(200), Off: 1 + source.IntN(200), Turns: 1 + source.IntN(64)},
			{On: top, Off: top, Turns: 1 + source.IntN(64)},
		}
		s := crossing(1+source.IntN(30), eyes...)
		for i := range eyes {
			healed += holdFrom(t, s, i, list)
		}
	}
	if healed < 100 {
		t.Error(healed)
	}
}

// P13.4: one that never comes to a bound is always believed: spells that are shorter than its bounds, and fewer turns in 64 ticks than are too many.
func TestAlwaysBelieved(t *testing.T) {
	source := rand.New(rand.NewPCG(13, 5))
	for longest := 2; longest < 30; longest++ {
		for range 5 {
			s := crossing(1+source.IntN(5), api.Eye{On: 2*longest + 1, Off: 2*longest + 1, Turns: 64})
			x := api.Looked{}
			for at, up := range spells(source, 500, longest) {
				var e api.Errno
				if x, e = Next(s, 0, x, up); e != api.OK || !Believed(x) || x.Well != 0 {
					t.Fatal(longest, at, x, e)
				}
			}
		}
	}
	// A turn every 32 ticks makes two of them in any 64.
	for _, turns := range []int{1, 2} {
		s := crossing(4, api.Eye{On: 33, Off: 33, Turns: turns})
		x, bad := api.Looked{}, 0
		for at := range 1000 {
			x, _ = Next(s, 0, x, at/32%2 == 1)
			if x.Bad {
				bad++
			}
		}
		if turns == 2 && bad != 0 || turns == 1 && bad == 0 {
			t.Error(turns, bad)
		}
	}
}

// P13.4: trembling in each tick is as many turns as there are ticks: it is not believed from the tick on in which these are more than Turns; with 64 it always is.
func TestTrembling(t *testing.T) {
	for turns := 1; turns <= 64; turns++ {
		s := crossing(3, api.Eye{On: top, Off: top, Turns: turns})
		x := api.Looked{}
		for at := range 200 {
			var e api.Errno
			if x, e = Next(s, 0, x, at%2 == 0); e != api.OK || Believed(x) == (turns < 64 && at+1 > turns) || x.Same != 1 {
				t.Fatal(turns, at, x, e)
			}
		}
		// It says the same from here on: it is ill till so many turns are forgotten, then not believed for two ticks more.
		for at := range 100 {
			x, _ = Next(s, 0, x, false)
			if Believed(x) != (turns == 64 || at+1 >= 64-turns+2) {
				t.Fatal("behind it", turns, at, x)
			}
		}
	}
}

// P13.4, W8: the same for as long as may be, from all zero up to MaxTicks and on: not believed from the tick MaxTicks on, Same stays there.
func TestTheSameForAsLongAsMayBe(t *testing.T) {
	for _, up := range []bool{false, true} {
		s := crossing(top, api.Eye{On: top, Off: top, Turns: 64})
		x := api.Looked{}
		for at := 1; at <= top+300; at++ {
			x, _ = Next(s, 0, x, up)
			if x.Same != min(at, top) || Believed(x) != (at < top) || x.Well != 0 || at > 64 && x.Turns != 0 {
				t.Fatal(up, at, x)
			}
		}
		// Behind it, it must be well for Heal ticks.
		for at := 1; at <= top; at++ {
			x, _ = Next(s, 0, x, up != (at%5 > 0))
			if Believed(x) != (at == top) || x.Well != at%top {
				t.Fatal("behind it", up, at, x)
			}
		}
	}
}

// P13.4: ill again while it was not believed: the ticks that it was well are counted anew.
func TestIllAgain(t *testing.T) {
	s := crossing(4, api.Eye{On: 3, Off: 9, Turns: 3})
	for i, c := range []struct{ ticks, bad, well string }{
		{"1110001", "0011110", "0001230"},
		{"1110111", "0011111", "0001230"},
		{"11101110000", "00111111111", "00012300000"},
		{"1111110000", "0011111110", "0000001230"},
		{"000000000111", "000000001111", "000000000120"},
		{"1010101", "0001111", "0000000"},
	} {
		x := api.Looked{}
		for k, up := range ticks(c.ticks) {
			x, _ = Next(s, 0, x, up)
			if x.Bad != (c.bad[k] == '1') || x.Well != int(c.well[k]-'0') {
				t.Error(i, k, x)
			}
		}
	}
}

// P13.4: what comes a tick later may be, from any detector that may be, again and again.
func TestWhatComesMayBe(t *testing.T) {
	source := rand.New(rand.NewPCG(13, 6))
	for range 300 {
		phases := 1 + source.IntN(8)
		many := source.IntN(api.MaxEyes + 1)
		s := wide(phases, []int{1, 2, 5, top}[source.IntN(4)], anyEyes(source, many, phases)...)
		l := anyLooks(source, many)
		for range 30 {
			next, e := All(s, l, source.Uint32())
			if e != api.OK || slowAllErrors(s, next) != api.OK {
				t.Fatal(s.Eyes, l, next, e)
			}
			is, e := Well(s, next)
			if e != api.OK || is != slowWell(s, next) {
				t.Fatal(s.Eyes, next, is, e)
			}
			l = next
		}
	}
}
