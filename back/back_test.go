package back

import (
	"math"
	"math/rand/v2"
	"slices"
	"testing"

	"stopline/api"
	"stopline/site"
)

// The numbers that the document gives.
func TestGivenNumbers(t *testing.T) {
	if top != 1048576 || api.ErrArg != 2 || api.ErrMany != 4 || api.ErrSite != 50 || api.Dark != 0 || api.Flash != 4 {
		t.Error(top, int(api.ErrArg), int(api.ErrMany), int(api.ErrSite), api.Dark, api.Flash)
	}
}

// The sites that all else here goes by may be.
func TestSitesOfTheTests(t *testing.T) {
	for i, s := range sites() {
		if e := site.Check(s); e != api.OK {
			t.Error(i, e)
		}
	}
}

// Every row of the chapter's examples.
func TestExamples(t *testing.T) {
	s, want, green := two(), lightsOf("RG"), lightsOf("GG")
	for i, c := range []struct {
		want, shown []uint8
		wrong       bool
		e           api.Errno
	}{
		{want, lightsOf("RG"), false, api.OK}, {want, nil, false, api.OK}, {want, green, true, api.OK},
		{lightsOf("R"), nil, false, api.ErrMany}, {lightsOf("Rx"), nil, false, api.ErrArg},
	} {
		if wrong, e := Wrong(s, c.want, c.shown); wrong != c.wrong || e != c.e {
			t.Error("Wrong", i, wrong, e)
		}
	}
	for i, c := range []struct {
		n     int
		shown []uint8
		next  int
		e     api.Errno
	}{{0, green, 1, api.OK}, {1, green, 2, api.OK}, {1, lightsOf("RG"), 0, api.OK}, {-1, green, 0, api.ErrArg}, {-1, lightsOf("RG"), 0, api.ErrArg}} {
		if next, e := Next(s, c.n, want, c.shown); next != c.next || e != c.e {
			t.Error("Next", i, next, e)
		}
	}
	for n, latches := range []bool{1: false, 2: true} {
		if is, e := Latches(s, n); is != latches || e != api.OK {
			t.Error("Latches", n, is, e)
		}
	}
}

// hold holds Wrong and Next against the slow reading.
func hold(t *testing.T, s api.Site, n int, want, shown []uint8) {
	t.Helper()
	wrong, e := Wrong(s, want, shown)
	if slow, f := slowWrong(s, want, shown); wrong != slow || e != f {
		t.Fatalf("Wrong of %v, %v: %t, %d, not %t, %d", want, shown, wrong, e, slow, f)
	}
	next, e := Next(s, n, want, shown)
	if slow, f := slowNext(s, n, want, shown); next != slow || e != f {
		t.Fatalf("Next of %d, %v, %v: %d, %d, not %d, %d", n, want, shown, next, e, slow, f)
	}
}

// P10.1, P10.2: a site that may not be is told ahead of all else, and nothing is told beside it.
func TestBadSites(t *testing.T) {
	for name, s := range badSites() {
		if site.Check(s) != api.ErrSite {
			t.Error(name, "may be")
		}
		groups := len(s.Groups)
		lists := [][]uint8{nil, {}, lightsOf("R"), lightsOf("RG"), lightsOf("GG"), lightsOf("Rx"), lightsOf("z"), lightsOf("RGYxz"), make([]uint8, groups), make([]uint8, groups+1), make([]uint8, 5000)}
		for _, want := range lists {
			for _, shown := range lists {
				if wrong, e := Wrong(s, want, shown); e != api.ErrSite || wrong {
					t.Error(name, "Wrong", want, shown, wrong, e)
				}
				for _, n := range edges(2) {
					if next, e := Next(s, n, want, shown); e != api.ErrSite || next != 0 {
						t.Error(name, "Next", n, want, shown, next, e)
					}
				}
			}
		}
		for _, n := range edges(2) {
			if is, e := Latches(s, n); e != api.ErrSite || is {
				t.Error(name, "Latches", n, is, e)
			}
		}
	}
}

// P10.1, P10.2: of several errors the first one in the chapter's order is told; of Wrong's, n's comes ahead.
func TestWhichErrorIsTold(t *testing.T) {
	right := lightsOf("RG")
	for i, c := range []struct {
		want, shown []uint8
		e           api.Errno
	}{
		{nil, nil, api.ErrMany}, {[]uint8{}, nil, api.ErrMany}, {lightsOf("R"), nil, api.ErrMany}, {lightsOf("RGR"), nil, api.ErrMany},
		{nil, right, api.ErrMany}, {[]uint8{}, right, api.ErrMany}, {lightsOf("R"), right, api.ErrMany}, {lightsOf("RGR"), right, api.ErrMany},
		// Want of another length with aspects above 4 in it.
		{lightsOf("x"), nil, api.ErrMany}, {lightsOf("z"), right, api.ErrMany}, {lightsOf("RGx"), right, api.ErrMany}, {lightsOf("zGR"), nil, api.ErrMany}, {lightsOf("xzx"), lightsOf("zz"), api.ErrMany},
		// Want of another length, with whatever is shown, even what would be of want's length.
		{lightsOf("R"), lightsOf("R"), api.ErrMany}, {lightsOf("RGR"), lightsOf("RGR"), api.ErrMany}, {nil, lightsOf("x"), api.ErrMany}, {lightsOf("R"), lightsOf("Rx"), api.ErrMany}, {lightsOf("RGR"), lightsOf("zG"), api.ErrMany},
		// Want with an aspect above 4.
		{lightsOf("xG"), nil, api.ErrArg}, {lightsOf("Rx"), right, api.ErrArg}, {lightsOf("zz"), []uint8{}, api.ErrArg}, {lightsOf("xG"), lightsOf("xG"), api.ErrArg},
		// Beside shown of another length, and beside shown with one above 4.
		{lightsOf("xG"), lightsOf("R"), api.ErrArg}, {lightsOf("Rz"), lightsOf("RGR"), api.ErrArg}, {lightsOf("Rx"), lightsOf("x"), api.ErrArg}, {lightsOf("xR"), lightsOf("xRz"), api.ErrArg}, {lightsOf("zG"), lightsOf("Rz"), api.ErrArg},
		// Shown of another length, with aspects above 4 in it or without.
		{right, lightsOf("R"), api.ErrMany}, {right, lightsOf("RGR"), api.ErrMany}, {right, make([]uint8, 5000), api.ErrMany}, {right, lightsOf("x"), api.ErrMany}, {right, lightsOf("zGR"), api.ErrMany}, {right, lightsOf("RGx"), api.ErrMany}, {right, lightsOf("xxx"), api.ErrMany},
		// Shown with an aspect above 4, behind one that is wrong and ahead of one, and beside none.
		{right, lightsOf("xG"), api.ErrArg}, {right, lightsOf("Rx"), api.ErrArg}, {right, lightsOf("Gz"), api.ErrArg}, {right, lightsOf("zR"), api.ErrArg}, {right, lightsOf("zz"), api.ErrArg},
		{right, right, api.OK}, {right, nil, api.OK}, {right, []uint8{}, api.OK}, {right, lightsOf("DF"), api.OK}, {lightsOf("DF"), right, api.OK},
	} {
		if _, f := slowWrong(two(), c.want, c.shown); f != c.e {
			t.Fatal("the slow reading tells otherwise", i, c.want, c.shown, f)
		}
		if wrong, e := Wrong(two(), c.want, c.shown); e != c.e || e != api.OK && wrong {
			t.Error("Wrong", i, wrong, e)
		}
		for _, n := range edges(2) {
			e := c.e
			if n < 0 || n > top {
				e = api.ErrArg
			}
			if next, f := Next(two(), n, c.want, c.shown); f != e || f != api.OK && next != 0 {
				t.Error("Next", i, n, next, f)
			}
			hold(t, two(), n, c.want, c.shown)
		}
	}
}

// P10.1: lists that have not an aspect for each group: none, one too few, one too many, many.
func TestLengths(t *testing.T) {
	for i, s := range sites() {
		groups := len(s.Groups)
		right := slices.Repeat([]uint8{api.Red}, groups)
		for many := range 40 {
			for _, aspect := range []uint8{api.Dark, api.Red, api.Flash, 5, 255} {
				list := slices.Repeat([]uint8{aspect}, many)
				e, f := api.OK, api.OK
				switch {
				case many != groups:
					e, f = api.ErrMany, api.ErrMany
				case aspect > 4:
					e, f = api.ErrArg, api.ErrArg
				}
				if many == 0 {
					f = api.OK
				}
				for _, shown := range [][]uint8{nil, {}, right} {
					if wrong, told := Wrong(s, list, shown); told != e || told != api.OK && wrong {
						t.Error(i, "want", list, shown, wrong, told)
					}
				}
				if wrong, told := Wrong(s, right, list); told != f || wrong != (f == api.OK && many > 0 && aspect != api.Red) {
					t.Error(i, "shown", list, wrong, told)
				}
				hold(t, s, 7, list, right)
				hold(t, s, 7, right, list)
			}
		}
	}
}

// P10.1: an aspect from 0 to 4 may be, one above may not, at each group, in what is wanted and in what is shown.
func TestAspects(t *testing.T) {
	for i, s := range sites() {
		for at := range s.Groups {
			for aspect := range 256 {
				list, right := slices.Repeat([]uint8{api.Red}, len(s.Groups)), slices.Repeat([]uint8{api.Red}, len(s.Groups))
				list[at] = uint8(aspect)
				want, wrong := api.OK, uint8(aspect) != api.Red
				if aspect > 4 {
					want, wrong = api.ErrArg, false
				}
				for _, pair := range [][2][]uint8{{list, right}, {right, list}} {
					if is, e := Wrong(s, pair[0], pair[1]); e != want || is != wrong {
						t.Error(i, at, pair, is, e)
					}
					if n, e := Next(s, 0, pair[0], pair[1]); e != want || (n == 1) != wrong || n > 1 {
						t.Error(i, at, pair, n, e)
					}
				}
				if is, e := Wrong(s, list, list); e != want || is {
					t.Error(i, at, list, is, e)
				}
				if is, e := Wrong(s, list, nil); e != want || is {
					t.Error(i, at, list, is, e)
				}
			}
		}
	}
}

// P10.1: each aspect against each other one, in one group alone, wherever that stands, and in all.
func TestEachAspectAgainstEach(t *testing.T) {
	for _, groups := range []int{1, 2, 3, api.MaxGroups} {
		s := alike(groups, 2)
		for wanted := range uint8(5) {
			for seen := range uint8(5) {
				want := slices.Repeat([]uint8{wanted}, groups)
				for at := range groups {
					shown := slices.Clone(want)
					shown[at] = seen
					if wrong, e := Wrong(s, want, shown); e != api.OK || wrong != (wanted != seen) {
						t.Error(want, shown, wrong, e)
					}
				}
				if wrong, e := Wrong(s, want, slices.Repeat([]uint8{seen}, groups)); e != api.OK || wrong != (wanted != seen) {
					t.Error(groups, wanted, seen, wrong, e)
				}
			}
		}
	}
	// The same aspects in another order are wrong, too; each group has its own.
	for i, c := range []struct {
		want, shown string
		wrong       bool
	}{{"RG", "GR", true}, {"GR", "GR", false}, {"DF", "FD", true}, {"YY", "YD", true}, {"YY", "DY", true}, {"DD", "DD", false}, {"FF", "FF", false}, {"RR", "DD", true}, {"RG", "FF", true}, {"FF", "RR", true}} {
		if wrong, e := Wrong(two(), lightsOf(c.want), lightsOf(c.shown)); e != api.OK || wrong != c.wrong {
			t.Error(i, wrong, e)
		}
	}
}

// P10.1, P10.2: every two lists of up to three aspects, the least and the greatest ones that may not be among them.
func TestEveryShortList(t *testing.T) {
	lists := every(3, []uint8{0, 1, 2, 4, 5, 255})
	for _, s := range []api.Site{two(), alike(1, 1)} {
		for i, want := range lists {
			for k, shown := range lists {
				hold(t, s, []int{0, 1, top - 1, top, -1, top + 1}[(i+k)%6], want, shown)
			}
		}
	}
}

// P10.1, P10.4: lamps that show what they should, or nothing, are never wrong, whatever is wanted of them; and count from 0.
func TestLampsThatAreRight(t *testing.T) {
	source := rand.New(rand.NewPCG(10, 1))
	for i, s := range sites() {
		for range 200 {
			want := anyLights(source, len(s.Groups))
			for _, shown := range [][]uint8{want, slices.Clone(want), nil, {}} {
				if wrong, e := Wrong(s, want, shown); wrong || e != api.OK {
					t.Fatal(i, want, shown, wrong, e)
				}
				for _, n := range []int{0, 1, s.Feed - 1, s.Feed, top - 1, top} {
					if next, e := Next(s, n, want, shown); next != 0 || e != api.OK {
						t.Fatal(i, n, want, shown, next, e)
					}
				}
			}
		}
	}
}

// P10.2: the count at its edges, with lamps that are wrong, right, and silent.
func TestCounts(t *testing.T) {
	for i, s := range sites() {
		want, shown := make([]uint8, len(s.Groups)), make([]uint8, len(s.Groups))
		shown[len(shown)-1] = api.Flash
		for n, next := range map[int]int{0: 1, 1: 2, 2: 3, 1000: 1001, top - 2: top - 1, top - 1: top, top: top} {
			if got, e := Next(s, n, want, shown); got != next || e != api.OK {
				t.Error(i, n, got, e)
			}
		}
		for _, n := range []int{math.MinInt, math.MinInt + 1, -top, -1, top + 1, top + 2, 1 << 31, 1 << 32, math.MaxInt - 1, math.MaxInt} {
			for _, list := range [][]uint8{want, shown, nil} {
				if got, e := Next(s, n, want, list); got != 0 || e != api.ErrArg {
					t.Error(i, n, list, got, e)
				}
			}
			if is, e := Latches(s, n); is || e != api.ErrArg {
				t.Error(i, n, is, e)
			}
		}
	}
}

// P10.2: which counts latch, at the least and at the greatest Feed and between.
func TestLatches(t *testing.T) {
	list := sites()
	for _, feed := range []int{1, 2, 5, 64, 65535, 65536, top / 2, top - 2, top - 1, top} {
		list = append(list, alike(2, feed))
	}
	for i, s := range list {
		for _, n := range edges(s.Feed) {
			is, e := Latches(s, n)
			if slow, f := slowLatches(s, n); is != slow || e != f {
				t.Error(i, s.Feed, n, is, e)
			}
		}
		for n, want := range map[int]bool{0: false, s.Feed - 1: false, s.Feed: true, top: true} {
			if is, e := Latches(s, n); is != want || e != api.OK {
				t.Error(i, s.Feed, n, is, e)
			}
		}
	}
}
