package eye

import (
	"math"
	"math/rand/v2"
	"slices"
	"testing"

	"stopline/api"
	"stopline/site"
)

const no, yes = false, true

// The numbers that the document gives; and that the sites that the tests lean on may be, or may not.
func TestGivenNumbers(t *testing.T) {
	if top != 1048576 || api.MaxEyes != 24 || api.ErrArg != 2 || api.ErrMany != 4 || api.ErrBad != 8 || api.ErrSite != 50 || api.OK != 0 {
		t.Error(top, api.MaxEyes, int(api.ErrArg), int(api.ErrMany), int(api.ErrBad), int(api.ErrSite), int(api.OK))
	}
	e := api.Eye{On: 3, Off: 9, Turns: 2}
	for i, s := range []api.Site{crossing(4), crossing(4, e), crossing(4, eyesOf(api.MaxEyes, e)...), wide(1, 1), wide(8, top, eyesOf(api.MaxEyes, e)...)} {
		if site.Check(s) != api.OK {
			t.Error(i)
		}
	}
	for i, s := range badSites() {
		if site.Check(s) != api.ErrSite {
			t.Error(i)
		}
	}
	for _, x := range wrong() {
		if slowMayBe(x) {
			t.Error(x)
		}
	}
}

// Every row of the chapter's examples.
func TestExamples(t *testing.T) {
	s := crossing(4, api.Eye{On: 3, Off: 9, Turns: 2})
	for i, c := range []struct {
		ticks string
		want  []api.Looked
	}{
		{"1110000", []api.Looked{
			{Up: yes, Same: 1, Turns: 1}, {Up: yes, Same: 2, Turns: 2}, {Up: yes, Same: 3, Turns: 4, Bad: yes},
			{Same: 1, Turns: 9, Bad: yes, Well: 1}, {Same: 2, Turns: 18, Bad: yes, Well: 2}, {Same: 3, Turns: 36, Bad: yes, Well: 3}, {Same: 4, Turns: 72},
		}},
		{"101", []api.Looked{{Up: yes, Same: 1, Turns: 1}, {Same: 1, Turns: 3}, {Up: yes, Same: 1, Turns: 7, Bad: yes}}},
	} {
		x := api.Looked{}
		for k, up := range ticks(c.ticks) {
			var e api.Errno
			if x, e = Next(s, 0, x, up); x != c.want[k] || e != api.OK || Believed(x) == c.want[k].Bad {
				t.Error(i, k, x, e)
			}
		}
	}
	if !Wants(api.Looked{Bad: true}) || !Wants(api.Looked{Up: true}) || Wants(api.Looked{}) {
		t.Error("Wants")
	}
	for _, x := range []api.Looked{{}, {Up: true, Same: 2}, {Bad: true, Well: 1}, {Well: 1}} {
		for _, up := range []bool{no, yes} {
			if q, e := Next(s, 1, x, up); q != (api.Looked{}) || e != api.ErrArg {
				t.Error(x, up, q, e)
			}
		}
	}
}

// P13.1: what stands in a detector a tick later, written out: On 3, Off 5, Turns 2, Heal 4.
func TestNextByHand(t *testing.T) {
	s := crossing(4, api.Eye{On: 3, Off: 5, Turns: 2})
	for i, c := range []struct {
		x    api.Looked
		up   bool
		want api.Looked
	}{
		{api.Looked{}, no, api.Looked{Same: 1}},
		{api.Looked{}, yes, api.Looked{Up: yes, Same: 1, Turns: 1}},
		{api.Looked{Up: yes}, yes, api.Looked{Up: yes, Same: 1}},
		{api.Looked{Up: yes}, no, api.Looked{Same: 1, Turns: 1}},
		// Up: one tick short of On, at it, past it.
		{api.Looked{Up: yes, Same: 1}, yes, api.Looked{Up: yes, Same: 2}},
		{api.Looked{Up: yes, Same: 2}, yes, api.Looked{Up: yes, Same: 3, Bad: yes}},
		{api.Looked{Up: yes, Same: 3}, yes, api.Looked{Up: yes, Same: 4, Bad: yes}},
		{api.Looked{Up: yes, Same: 2}, no, api.Looked{Same: 1, Turns: 1}},
		{api.Looked{Up: yes, Same: 99}, no, api.Looked{Same: 1, Turns: 1}},
		// Down: On is none of its bounds; one tick short of Off, at it, past it.
		{api.Looked{Same: 2}, no, api.Looked{Same: 3}},
		{api.Looked{Same: 3}, no, api.Looked{Same: 4}},
		{api.Looked{Same: 4}, no, api.Looked{Same: 5, Bad: yes}},
		{api.Looked{Same: 5}, no, api.Looked{Same: 6, Bad: yes}},
		{api.Looked{Same: 4}, yes, api.Looked{Up: yes, Same: 1, Turns: 1}},
		// Turns: as many as the bound, one more, and one that is forgotten.
		{api.Looked{Same: 1, Turns: 1}, yes, api.Looked{Up: yes, Same: 1, Turns: 3}},
		{api.Looked{Same: 1, Turns: 3}, no, api.Looked{Same: 2, Turns: 6}},
		{api.Looked{Same: 1, Turns: 3}, yes, api.Looked{Up: yes, Same: 1, Turns: 7, Bad: yes}},
		{api.Looked{Same: 1, Turns: 1<<62 | 1}, yes, api.Looked{Up: yes, Same: 1, Turns: highest | 3, Bad: yes}},
		{api.Looked{Same: 1, Turns: highest | 1}, yes, api.Looked{Up: yes, Same: 1, Turns: 3}},
		{api.Looked{Same: 1, Turns: highest}, no, api.Looked{Same: 2}},
		{api.Looked{Same: 1, Turns: highest | 6}, no, api.Looked{Same: 2, Turns: 12}},
		{api.Looked{Same: 1, Turns: allSet}, no, api.Looked{Same: 2, Turns: allSet - 1, Bad: yes}},
		{api.Looked{Same: 1, Turns: allSet}, yes, api.Looked{Up: yes, Same: 1, Turns: allSet, Bad: yes}},
		// Two ways to be ill at once.
		{api.Looked{Up: yes, Same: 2, Turns: 7}, yes, api.Looked{Up: yes, Same: 3, Turns: 14, Bad: yes}},
		// Bad, and well for a tick, up to Heal; or ill again.
		{api.Looked{Bad: yes}, no, api.Looked{Same: 1, Bad: yes, Well: 1}},
		{api.Looked{Same: 1, Bad: yes, Well: 1}, no, api.Looked{Same: 2, Bad: yes, Well: 2}},
		{api.Looked{Same: 1, Bad: yes, Well: 2}, yes, api.Looked{Up: yes, Same: 1, Turns: 1, Bad: yes, Well: 3}},
		{api.Looked{Same: 2, Bad: yes, Well: 3}, no, api.Looked{Same: 3}},
		{api.Looked{Same: 2, Bad: yes, Well: 3}, yes, api.Looked{Up: yes, Same: 1, Turns: 1}},
		{api.Looked{Same: 2, Bad: yes, Well: 4}, no, api.Looked{Same: 3}},
		{api.Looked{Same: 2, Bad: yes, Well: top}, no, api.Looked{Same: 3}},
		{api.Looked{Same: 4, Bad: yes, Well: 3}, no, api.Looked{Same: 5, Bad: yes}},
		{api.Looked{Up: yes, Same: 2, Bad: yes, Well: 3}, yes, api.Looked{Up: yes, Same: 3, Bad: yes}},
		{api.Looked{Up: yes, Same: 1, Turns: 3, Bad: yes, Well: 3}, no, api.Looked{Same: 1, Turns: 7, Bad: yes}},
		{api.Looked{Up: yes, Same: 2, Bad: yes, Well: top}, yes, api.Looked{Up: yes, Same: 3, Bad: yes}},
		// At the top of Same.
		{api.Looked{Same: top - 1}, no, api.Looked{Same: top, Bad: yes}},
		{api.Looked{Same: top}, no, api.Looked{Same: top, Bad: yes}},
		{api.Looked{Same: top, Turns: 3, Bad: yes, Well: 2}, no, api.Looked{Same: top, Turns: 6, Bad: yes}},
		{api.Looked{Up: yes, Same: top}, yes, api.Looked{Up: yes, Same: top, Bad: yes}},
		{api.Looked{Up: yes, Same: top}, no, api.Looked{Same: 1, Turns: 1}},
	} {
		if x, e := Next(s, 0, c.x, c.up); x != c.want || e != api.OK {
			t.Error(i, c, x, e)
		}
	}
}

// P13.1: bounds at their least and at their greatest, written out.
func TestBoundsByHand(t *testing.T) {
	for i, c := range []struct {
		eye  api.Eye
		heal int
		x    api.Looked
		up   bool
		want api.Looked
	}{
		{api.Eye{On: 1, Off: top, Turns: 64}, 1, api.Looked{}, yes, api.Looked{Up: yes, Same: 1, Turns: 1, Bad: yes}},
		{api.Eye{On: 1, Off: top, Turns: 64}, 1, api.Looked{}, no, api.Looked{Same: 1}},
		{api.Eye{On: top, Off: 1, Turns: 64}, 1, api.Looked{}, no, api.Looked{Same: 1, Bad: yes}},
		{api.Eye{On: top, Off: 1, Turns: 64}, 1, api.Looked{}, yes, api.Looked{Up: yes, Same: 1, Turns: 1}},
		{api.Eye{On: top, Off: 1, Turns: 64}, 1, api.Looked{Bad: yes}, yes, api.Looked{Up: yes, Same: 1, Turns: 1}},
		{api.Eye{On: top, Off: top, Turns: 64}, 1, api.Looked{Up: yes, Same: top - 2}, yes, api.Looked{Up: yes, Same: top - 1}},
		{api.Eye{On: top, Off: top, Turns: 64}, 1, api.Looked{Up: yes, Same: top - 1}, yes, api.Looked{Up: yes, Same: top, Bad: yes}},
		{api.Eye{On: top, Off: top, Turns: 64}, 1, api.Looked{Up: yes, Same: top}, yes, api.Looked{Up: yes, Same: top, Bad: yes}},
		{api.Eye{On: top, Off: top, Turns: 64}, 1, api.Looked{Same: top - 2}, no, api.Looked{Same: top - 1}},
		{api.Eye{On: top, Off: top, Turns: 64}, 1, api.Looked{Same: top - 1}, no, api.Looked{Same: top, Bad: yes}},
		{api.Eye{On: top, Off: top, Turns: 64}, 1, api.Looked{Same: top}, no, api.Looked{Same: top, Bad: yes}},
		{api.Eye{On: top, Off: top, Turns: 1}, 1, api.Looked{}, yes, api.Looked{Up: yes, Same: 1, Turns: 1}},
		{api.Eye{On: top, Off: top, Turns: 1}, 1, api.Looked{Turns: 1}, yes, api.Looked{Up: yes, Same: 1, Turns: 3, Bad: yes}},
		{api.Eye{On: top, Off: top, Turns: 1}, 1, api.Looked{Turns: highest}, yes, api.Looked{Up: yes, Same: 1, Turns: 1}},
		{api.Eye{On: top, Off: top, Turns: 64}, 1, api.Looked{Turns: allSet}, yes, api.Looked{Up: yes, Same: 1, Turns: allSet}},
		{api.Eye{On: top, Off: top, Turns: 63}, 1, api.Looked{Turns: allSet}, yes, api.Looked{Up: yes, Same: 1, Turns: allSet, Bad: yes}},
		{api.Eye{On: top, Off: top, Turns: 63}, 1, api.Looked{Turns: allSet}, no, api.Looked{Same: 1, Turns: allSet - 1}},
		{api.Eye{On: top, Off: top, Turns: 62}, 1, api.Looked{Turns: allSet}, no, api.Looked{Same: 1, Turns: allSet - 1, Bad: yes}},
		{api.Eye{On: 9, Off: 9, Turns: 9}, 1, api.Looked{Bad: yes}, no, api.Looked{Same: 1}},
		{api.Eye{On: 9, Off: 9, Turns: 9}, 2, api.Looked{Bad: yes}, no, api.Looked{Same: 1, Bad: yes, Well: 1}},
		{api.Eye{On: 9, Off: 9, Turns: 9}, top, api.Looked{Bad: yes, Well: top - 2}, no, api.Looked{Same: 1, Bad: yes, Well: top - 1}},
		{api.Eye{On: 9, Off: 9, Turns: 9}, top, api.Looked{Bad: yes, Well: top - 1}, no, api.Looked{Same: 1}},
		{api.Eye{On: 9, Off: 9, Turns: 9}, top, api.Looked{Bad: yes, Well: top}, no, api.Looked{Same: 1}},
		{api.Eye{On: 9, Off: 1, Turns: 9}, top, api.Looked{Bad: yes, Well: top}, no, api.Looked{Same: 1, Bad: yes}},
	} {
		if x, e := Next(crossing(c.heal, c.eye), 0, c.x, c.up); x != c.want || e != api.OK {
			t.Error(i, c, x, e)
		}
	}
}

// bounds are eyes with their bounds at the edges and between.
func bounds() []api.Eye {
	var list []api.Eye
	for _, on := range []int{1, 2, 3, top - 1, top} {
		for _, off := range []int{1, 2, 3, top - 1, top} {
			for _, turns := range []int{1, 2, 3, 32, 33, 62, 63, 64} {
				list = append(list, api.Eye{Phase: len(list) % 2, On: on, Off: off, Turns: turns})
			}
		}
	}
	return list
}

// P13.1, W8: every detector at the edges of its numbers, that may be or not, with every eye and Heal at the edges of theirs, against the slow reading.
func TestNextAtTheEdges(t *testing.T) {
	list := looks(numbers(), []int{math.MinInt, -1, 0, 1, 2, top - 1, top, top + 1, math.MaxInt}, []uint64{0, 1, highest, allSet, allSet >> 1, 0x5555555555555555})
	for _, eye := range bounds() {
		for _, heal := range []int{1, 2, top} {
			s := crossing(heal, eye)
			for k, x := range list {
				up := k/3%2 == 0
				q, e := Next(s, 0, x, up)
				if want, f := slowNext(s, 0, x, up); q != want || e != f {
					t.Fatal(eye, heal, x, up, "told", q, e, "not", want, f)
				}
			}
		}
	}
}

// P13.1: as ahead, with each way to say it, fewer eyes and all edges of Well, Heal and Turns.
func TestNextAtTheEdgesOfWell(t *testing.T) {
	for _, eye := range []api.Eye{{On: 1, Off: 1, Turns: 1}, {On: 3, Off: 2, Turns: 2}, {Phase: 1, On: top, Off: top, Turns: 64}, {On: top, Off: top, Turns: 31}} {
		for _, heal := range []int{1, 2, 3, top - 1, top} {
			s := crossing(heal, eye)
			for _, x := range looks([]int{-1, 0, 1, 2, top - 1, top, top + 1}, numbers(), turns()) {
				for _, up := range []bool{no, yes} {
					q, e := Next(s, 0, x, up)
					if want, f := slowNext(s, 0, x, up); q != want || e != f {
						t.Fatal(eye, heal, x, up, "told", q, e, "not", want, f)
					}
				}
			}
		}
	}
}

// P13.1: Believed and Wants of any detector, whether it may be or not, hang on Bad and Up alone.
func TestBelievedAndWants(t *testing.T) {
	for _, x := range looks(numbers(), numbers(), turns()) {
		if Believed(x) != (x.Bad == false) {
			t.Error("Believed", x)
		}
		want := false
		if x.Up || x.Bad {
			want = true
		}
		if Wants(x) != want {
			t.Error("Wants", x)
		}
	}
}

// places are numbers of eyes at the edges of a list of so many.
func places(many int) []int {
	return []int{math.MinInt, math.MinInt + 1, -25, -2, -1, 0, 1, many - 1, many, many + 1, api.MaxEyes - 1, api.MaxEyes, api.MaxEyes + 1, 31, 32, 64, 1 << 31, 1 << 32, math.MaxInt - 1, math.MaxInt}
}

// P13.1: an eye's number is one of the site's eyes; the bounds are those of that eye.
func TestWhichEye(t *testing.T) {
	for many := range api.MaxEyes + 1 {
		var eyes []api.Eye
		for i := range many {
			eyes = append(eyes, api.Eye{Phase: i % 2, On: 2 + i, Off: 40 - i, Turns: 1 + i})
		}
		s := crossing(4, eyes...)
		for _, i := range places(many) {
			x, e := Next(s, i, api.Looked{Up: true, Same: 3}, true)
			switch {
			case i < 0 || i >= many:
				if e != api.ErrArg || x != (api.Looked{}) {
					t.Error(many, i, x, e)
				}
			case e != api.OK || x != (api.Looked{Up: true, Same: 4, Bad: i <= 2}):
				t.Error(many, i, x, e)
			}
		}
		for i := range many {
			for same := range 45 {
				for _, up := range []bool{no, yes} {
					x, e := Next(s, i, api.Looked{Up: up, Same: same, Turns: 0x5555}, up)
					if want, f := slowNext(s, i, api.Looked{Up: up, Same: same, Turns: 0x5555}, up); x != want || e != f {
						t.Fatal(many, i, same, up, x, e)
					}
				}
			}
		}
	}
}

// holdNext holds Next against an error that is known: nothing is told beside it.
func holdNext(t *testing.T, s api.Site, i int, x api.Looked, want api.Errno) {
	t.Helper()
	for _, up := range []bool{no, yes} {
		if q, e := Next(s, i, x, up); e != want || q != (api.Looked{}) {
			t.Error(len(s.Eyes), i, x, up, "told", q, e, "not", want)
		}
	}
}

// P13.1: which error Next tells, where one, two or all three would hold.
func TestWhichErrorNextTells(t *testing.T) {
	eye := api.Eye{On: 3, Off: 9, Turns: 2}
	good := []api.Looked{{}, {Up: true, Same: top, Turns: allSet}, {Bad: true, Well: top}}
	all := append(wrong(), good...)
	for _, s := range badSites() {
		for _, i := range places(len(s.Eyes)) {
			for _, x := range all {
				holdNext(t, s, i, x, api.ErrSite)
			}
		}
	}
	for _, many := range []int{0, 1, 2, api.MaxEyes - 1, api.MaxEyes} {
		s := crossing(4, eyesOf(many, eye)...)
		for _, i := range places(many) {
			if i < 0 || i >= many {
				for _, x := range all {
					holdNext(t, s, i, x, api.ErrArg)
				}
				continue
			}
			for _, x := range wrong() {
				holdNext(t, s, i, x, api.ErrBad)
			}
		}
	}
}

// holdMany holds All and Well against an error that is known: nothing is told beside it.
func holdMany(t *testing.T, s api.Site, l []api.Looked, want api.Errno) {
	t.Helper()
	for _, ups := range []uint32{0, 1, math.MaxUint32} {
		if next, e := All(s, l, ups); e != want || len(next) != 0 {
			t.Error("All", len(s.Eyes), l, "told", next, e, "not", want)
		}
	}
	if is, e := Well(s, l); e != want || is {
		t.Error("Well", len(s.Eyes), l, "told", is, e, "not", want)
	}
}

// P13.2: which error All and Well tell, where one, two or all three would hold, wherever the bad one stands.
func TestWhichErrorAllAndWellTell(t *testing.T) {
	eye := api.Eye{On: 3, Off: 9, Turns: 2}
	bad := wrong()
	for _, s := range badSites() {
		for _, many := range []int{0, 1, 2, len(s.Eyes), len(s.Eyes) + 1} {
			holdMany(t, s, make([]api.Looked, many), api.ErrSite)
			holdMany(t, s, slices.Repeat(bad[:1], many), api.ErrSite)
			holdMany(t, s, slices.Repeat(bad[6:7], many), api.ErrSite)
		}
		holdMany(t, s, nil, api.ErrSite)
	}
	for _, many := range []int{0, 1, 2, 3, api.MaxEyes - 1, api.MaxEyes} {
		s := crossing(4, eyesOf(many, eye)...)
		for _, wrongMany := range []int{0, 1, many - 1, many + 1, api.MaxEyes, api.MaxEyes + 1, 32, 33, 1000} {
			if wrongMany < 0 || wrongMany == many {
				continue
			}
			holdMany(t, s, make([]api.Looked, wrongMany), api.ErrMany)
			for at := range min(wrongMany, 30) {
				l := make([]api.Looked, wrongMany)
				l[at] = bad[at%len(bad)]
				holdMany(t, s, l, api.ErrMany)
			}
		}
		if many > 0 {
			holdMany(t, s, nil, api.ErrMany)
			holdMany(t, s, make([]api.Looked, many-1, many), api.ErrMany)
		}
		for at := range many {
			for _, x := range bad {
				l := make([]api.Looked, many)
				l[at] = x
				holdMany(t, s, l, api.ErrBad)
				l[0] = bad[0]
				l[many-1] = bad[1]
				holdMany(t, s, l, api.ErrBad)
			}
		}
	}
}

// P13.2: of a site without eyes All are none, and Well is true, with lists that are nil and that are empty.
func TestNoEyes(t *testing.T) {
	for _, s := range []api.Site{crossing(4), crossing(4, []api.Eye{}...), wide(8, 1)} {
		for _, l := range [][]api.Looked{nil, {}, make([]api.Looked, 0, 5)} {
			for _, ups := range []uint32{0, 1, math.MaxUint32} {
				if next, e := All(s, l, ups); len(next) != 0 || e != api.OK {
					t.Error(next, e)
				}
			}
			if is, e := Well(s, l); !is || e != api.OK {
				t.Error(is, e)
			}
		}
	}
}

// anyEyes are eyes with any bounds of any of so many phases.
func anyEyes(source *rand.Rand, many, phases int) []api.Eye {
	var list []api.Eye
	any := []int{1, 2, 3, 5, top - 1, top}
	for range many {
		list = append(list, api.Eye{Phase: source.IntN(phases), On: any[source.IntN(len(any))], Off: any[source.IntN(len(any))], Turns: 1 + source.IntN(64)})
	}
	return list
}

// anyLooks are detectors that may be, with any numbers.
func anyLooks(source *rand.Rand, many int) []api.Looked {
	var list []api.Looked
	any := []int{0, 1, 2, 3, 4, 5, top - 2, top - 1, top}
	for range many {
		x := api.Looked{Up: source.IntN(2) == 0, Same: any[source.IntN(len(any))], Turns: source.Uint64() & source.Uint64() >> source.IntN(64), Bad: source.IntN(2) == 0}
		if x.Bad {
			x.Well = any[source.IntN(len(any))]
		}
		list = append(list, x)
	}
	return list
}

// P13.2: All is Next of each eye with its own bounds and its own bit, and bits of no eye count for nothing.
func TestAllIsNextOfEach(t *testing.T) {
	source := rand.New(rand.NewPCG(13, 2))
	for many := range api.MaxEyes + 1 {
		for range 40 {
			phases := 1 + source.IntN(8)
			s := wide(phases, []int{1, 2, 4, top}[source.IntN(4)], anyEyes(source, many, phases)...)
			l := anyLooks(source, many)
			ups := source.Uint32()
			mine := uint32(1)<<many - 1
			for _, ups := range []uint32{ups, ups & mine, ups | ^mine, 0, math.MaxUint32, mine, ^mine, 1, 1 << 31} {
				next, e := All(s, l, ups)
				if e != api.OK || len(next) != many {
					t.Fatal(many, next, e)
				}
				for i, x := range next {
					up := ups/(1<<i)%2 == 1
					if want, f := Next(s, i, l[i], up); x != want || f != api.OK || x != slowLater(s, i, l[i], up) {
						t.Fatal(many, i, s.Eyes[i], s.Heal, l[i], up, "told", x, "not", want, f)
					}
				}
			}
		}
	}
}

// P13.2: each bit is that of its eye alone.
func TestEachBitIsOfItsEye(t *testing.T) {
	s := crossing(4, eyesOf(api.MaxEyes, api.Eye{On: 3, Off: 9, Turns: 2})...)
	for bit := range 32 {
		next, e := All(s, make([]api.Looked, api.MaxEyes), 1<<bit)
		if e != api.OK {
			t.Fatal(bit, e)
		}
		for i, x := range next {
			want := api.Looked{Same: 1}
			if i == bit {
				want = api.Looked{Up: true, Same: 1, Turns: 1}
			}
			if x != want {
				t.Error(bit, i, x)
			}
		}
	}
}

// P13.2: Well, written out: which phase each eye is of, which are not believed.
func TestWellByHand(t *testing.T) {
	for i, c := range []struct {
		phases []int
		bad    string
		want   bool
	}{
		{nil, "", yes},
		{[]int{0}, "0", yes}, {[]int{0}, "1", no}, {[]int{1}, "0", yes}, {[]int{1}, "1", no}, {[]int{7}, "1", no}, {[]int{7}, "0", yes},
		{[]int{0, 0}, "01", yes}, {[]int{0, 0}, "10", yes}, {[]int{0, 0}, "11", no}, {[]int{0, 0}, "00", yes},
		{[]int{0, 1}, "01", no}, {[]int{0, 1}, "10", no}, {[]int{0, 1}, "00", yes}, {[]int{3, 7}, "01", no}, {[]int{7, 3}, "01", no},
		{[]int{0, 1, 0}, "100", yes}, {[]int{0, 1, 0}, "001", yes}, {[]int{0, 1, 0}, "010", no}, {[]int{0, 1, 0}, "101", no},
		{[]int{5, 5, 5, 5}, "1101", yes}, {[]int{5, 5, 5, 5}, "1110", yes}, {[]int{5, 5, 5, 5}, "0111", yes}, {[]int{5, 5, 5, 5}, "1111", no},
		{[]int{0, 1, 2, 3, 4, 5, 6, 7}, "00000000", yes}, {[]int{0, 1, 2, 3, 4, 5, 6, 7}, "00000001", no}, {[]int{7, 6, 5, 4, 3, 2, 1, 0}, "00000001", no},
	} {
		var eyes []api.Eye
		var l []api.Looked
		for k, bad := range ticks(c.bad) {
			eyes = append(eyes, api.Eye{Phase: c.phases[k], On: 1, Off: 1, Turns: 1})
			l = append(l, api.Looked{Bad: bad})
		}
		if is, e := Well(wide(8, 4, eyes...), l); is != c.want || e != api.OK {
			t.Error(i, c, is, e)
		}
	}
}

// P13.2: Well of four eyes of three phases in all ways, whatever else stands in the detectors, against the slow reading.
func TestWellInAllWays(t *testing.T) {
	source := rand.New(rand.NewPCG(13, 3))
	for way := range 81 {
		eyes := eyesOf(4, api.Eye{On: 3, Off: 9, Turns: 2})
		for i, rest := 0, way; i < 4; i, rest = i+1, rest/3 {
			eyes[i].Phase = rest % 3
		}
		s := wide(3, 4, eyes...)
		for bad := range 16 {
			l := anyLooks(source, 4)
			for i := range l {
				l[i].Bad = bad/(1<<i)%2 == 1
				if !l[i].Bad {
					l[i].Well = 0
				}
			}
			if is, e := Well(s, l); is != slowWell(s, l) || e != api.OK {
				t.Fatal(way, bad, is, e)
			}
		}
	}
	for range 3000 {
		phases := 1 + source.IntN(8)
		many := source.IntN(api.MaxEyes + 1)
		s := wide(phases, 4, anyEyes(source, many, phases)...)
		l := anyLooks(source, many)
		if is, e := Well(s, l); is != slowWell(s, l) || e != api.OK || slowAllErrors(s, l) != api.OK {
			t.Fatal(s.Eyes, l, is, e)
		}
	}
}
