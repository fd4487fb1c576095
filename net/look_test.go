package net

import (
	"math"
	"math/rand/v2"
	"slices"
	"testing"

	"stopline/api"
)

// hold holds Check against the chapter's words.
func hold(t *testing.T, n api.Net) {
	t.Helper()
	want := api.ErrNet
	if slowMay(n) {
		want = api.OK
	}
	if e := Check(n); e != want {
		t.Fatal(int(e), "not", int(want), n)
	}
}

// P6.1
func TestRegionsThatMayBe(t *testing.T) {
	for i, n := range nets() {
		if !slowMay(n) {
			t.Fatal("the test's own region", i, "may not be", n)
		}
		if e := Check(n); e != api.OK {
			t.Error(i, int(e), n)
		}
	}
}

// edge is a number of a region: how it is set, and the lowest and the highest it may be then.
type edge struct {
	name      string
	set       func(n *api.Net, x int)
	low, high int
}

func holdEdges(t *testing.T, base api.Net, list []edge) {
	t.Helper()
	for _, c := range list {
		for x, want := range map[int]api.Errno{
			c.low: api.OK, c.high: api.OK, c.low - 1: api.ErrNet, c.high + 1: api.ErrNet,
			-1 << 20: api.ErrNet, 1 << 21: api.ErrNet, 1 << 32: api.ErrNet, math.MinInt: api.ErrNet, math.MaxInt: api.ErrNet,
		} {
			n := clone(base)
			c.set(&n, x)
			if e := Check(n); e != want {
				t.Error(c.name, x, int(e), "not", int(want))
			}
			hold(t, n)
		}
	}
}

// P6.1: each number at its lowest, at its highest, and one beyond either.
func TestEachNumberAtItsEdges(t *testing.T) {
	noOffsets := func(n *api.Net) { n.Weds[0].Offsets, n.Weds[1].Offsets = []int{0}, []int{0} }
	holdEdges(t, mixed(), []edge{
		{"a site's Id", func(n *api.Net, x int) { n.Sites[2].Id, n.Sites[1].Id = 5, x }, 0, 65535},
		{"a site's Low, up to the region's", func(n *api.Net, x int) { n.Sites[2].Low = x }, 1, 100},
		{"the last site's Low", func(n *api.Net, x int) { n.Sites[3].Low = x }, 1, 100},
		{"the first site's Low", func(n *api.Net, x int) { n.Sites[0].Low, n.Sites[0].Plans = x, nil }, 61, 100},
		{"a site's High, from the region's on", func(n *api.Net, x int) { n.Sites[2].High = x }, 160, top},
		{"the last site's High", func(n *api.Net, x int) { n.Sites[3].High = x }, 160, top},
		{"the first site's High", func(n *api.Net, x int) { n.Sites[0].High, n.Sites[0].Plans = x, nil }, 160, top},
		{"a sub's site", func(n *api.Net, x int) { n.Subs[1].Sites[0], n.Subs[1].Critical = x, x }, 2, 2},
		{"a sub's last site", func(n *api.Net, x int) { n.Subs[0].Sites[1], n.Subs[0].Critical = x, 3 }, 0, 0},
		{"the Critical of one site", func(n *api.Net, x int) { n.Subs[2].Critical = x }, 1, 1},
		{"Low and High, with the sites' Lows below and Highs above", func(n *api.Net, x int) {
			noOffsets(n)
			n.Sites = append(n.Sites[:3], one(3, 1, top))
			n.Low, n.High = x, x+60
		}, 61, 440},
		{"Low with High and what Step divides 64 times", func(n *api.Net, x int) {
			noOffsets(n)
			n.Sites[3] = one(3, 1, top)
			n.Low, n.Step = x, 1
		}, 96, 160},
		{"Low, above an Offset", func(n *api.Net, x int) {
			n.Sites[3] = one(3, 1, top)
			n.Low, n.Step = x, 1
		}, 100, 160},
		{"High, from Low to what Step divides 64 times", func(n *api.Net, x int) {
			n.Sites[3] = one(3, 1, top)
			n.High, n.Step = x, 1
		}, 100, 164},
		{"High, up to a site's", func(n *api.Net, x int) { n.High, n.Step = x, 1 }, 100, 160},
		{"Step where High is Low", func(n *api.Net, x int) { n.High, n.Step = 100, x }, 1, top},
		{"Votes", func(n *api.Net, x int) { n.Weds[0].Votes = x }, 1, top},
		{"the last Votes", func(n *api.Net, x int) { n.Weds[1].Votes = x }, 1, top},
		{"an Offset", func(n *api.Net, x int) { n.Weds[0].Offsets[0] = x }, 0, 99},
		{"the last Offset", func(n *api.Net, x int) { n.Weds[0].Offsets[2] = x }, 0, 99},
		{"the last wed's Offset", func(n *api.Net, x int) { n.Weds[1].Offsets[0] = x }, 0, 99},
		{"A, below B", func(n *api.Net, x int) { n.Weds = []api.Wed{{A: x, B: 2, Votes: 1, Offsets: []int{0}}} }, 0, 1},
		{"B, above A", func(n *api.Net, x int) { n.Weds = []api.Wed{{A: 0, B: x, Votes: 1, Offsets: []int{0}}} }, 1, 2},
		{"B, above A that is above 0", func(n *api.Net, x int) { n.Weds[1].B = x }, 2, 2},
		{"A and B, one above it", func(n *api.Net, x int) { n.Weds = []api.Wed{{A: x, B: x + 1, Votes: 1, Offsets: []int{0}}} }, 0, 1},
	})
	wide := least()
	wide.Sites[0].High = top
	holdEdges(t, wide, []edge{
		{"Low that is High", func(n *api.Net, x int) { n.Low, n.High = x, x }, 1, top},
		{"High by one Step", func(n *api.Net, x int) { n.High, n.Step = x, x-1 }, 2, top},
		{"Low by one Step", func(n *api.Net, x int) { n.Low, n.High, n.Step = x, top, top-x }, 1, top - 1},
		{"a site's place", func(n *api.Net, x int) { n.Subs[0].Sites[0], n.Subs[0].Critical = x, x }, 0, 0},
	})
}

// P6.1: Step must divide High - Low, and may do it 64 times, not 65 times.
func TestSteps(t *testing.T) {
	for _, c := range []struct {
		low, high, step int
		want            api.Errno
	}{
		{8, 20, 4, api.OK}, {8, 20, 5, api.ErrNet}, {8, 20, 12, api.OK}, {8, 20, 13, api.ErrNet}, {8, 20, 24, api.ErrNet}, {8, 20, 1, api.OK}, {8, 20, 8, api.ErrNet},
		{8, 72, 1, api.OK}, {8, 73, 1, api.ErrNet}, {8, 8 + 64*3, 3, api.OK}, {8, 8 + 65*3, 3, api.ErrNet}, {8, 8 + 64*3 + 1, 3, api.ErrNet},
		{top - 64*1000, top, 1000, api.OK}, {top - 65*1000, top, 1000, api.ErrNet}, {1, top, top - 1, api.OK}, {1, top, top, api.ErrNet}, {1, top, 1, api.ErrNet},
		{8, 8, 1, api.OK}, {8, 8, 5, api.OK}, {8, 8, top, api.OK}, {8, 8, 0, api.ErrNet}, {8, 8, -1, api.ErrNet}, {8, 8, top + 1, api.ErrNet}, {8, 20, 0, api.ErrNet}, {8, 20, -4, api.ErrNet},
		{8, 20, math.MinInt, api.ErrNet}, {8, 20, math.MaxInt, api.ErrNet}, {8, 7, 1, api.ErrNet}, {20, 8, 4, api.ErrNet}, {20, 8, -4, api.ErrNet},
		{0, 0, 1, api.ErrNet}, {0, 8, 4, api.ErrNet}, {-4, 8, 4, api.ErrNet}, {math.MinInt, math.MaxInt, 1, api.ErrNet}, {math.MaxInt, math.MinInt, 1, api.ErrNet}, {math.MinInt, math.MinInt, 1, api.ErrNet}, {math.MaxInt, math.MaxInt, 1, api.ErrNet},
	} {
		n := least()
		n.Sites[0].High = top
		n.Low, n.High, n.Step = c.low, c.high, c.step
		if e := Check(n); e != c.want {
			t.Error(c, int(e))
		}
		hold(t, n)
	}
	n := least()
	n.Sites[0].High = top
	for n.Low = 1; n.Low < 12; n.Low++ {
		for n.High = n.Low - 2; n.High < 90; n.High++ {
			for n.Step = -1; n.Step < 90; n.Step++ {
				hold(t, n)
			}
		}
	}
}

// counted has so many of each; the sites are dealt out to the subs one by one.
func counted(sites, subs, weds, offsets int) api.Net {
	n := api.Net{Low: 9, High: 9, Step: 1, Subs: make([]api.Sub, subs)}
	for i := range sites {
		n.Sites = append(n.Sites, one(i, 1, 9))
		if subs > 0 {
			sub := &n.Subs[i%subs]
			sub.Sites, sub.Critical = append(sub.Sites, i), i
		}
	}
	for b := range 30 {
		for a := range b {
			if len(n.Weds) < weds {
				n.Weds = append(n.Weds, api.Wed{A: a, B: b, Votes: 1, Offsets: make([]int, offsets)})
			}
		}
	}
	return n
}

// P6.1, and the limits: none, the most, and one more.
func TestHowManyOfEach(t *testing.T) {
	for _, c := range []struct {
		sites, subs, weds, offsets int
		want                       api.Errno
	}{
		{1, 1, 0, 1, api.OK},
		{12, 6, 8, 8, api.OK},
		{0, 1, 0, 1, api.ErrNet}, {0, 0, 0, 1, api.ErrNet}, {12, 1, 0, 1, api.OK}, {13, 1, 0, 1, api.ErrNet}, {13, 6, 0, 1, api.ErrNet}, {40, 6, 0, 1, api.ErrNet},
		{1, 0, 0, 1, api.ErrNet}, {12, 0, 0, 1, api.ErrNet}, {12, 6, 0, 1, api.OK}, {6, 6, 0, 1, api.OK}, {12, 7, 0, 1, api.ErrNet}, {7, 7, 0, 1, api.ErrNet}, {12, 12, 0, 1, api.ErrNet},
		{1, 2, 0, 1, api.ErrNet}, {5, 6, 0, 1, api.ErrNet}, // A sub without sites.
		{6, 6, 1, 1, api.OK}, {6, 6, 8, 1, api.OK}, {6, 6, 9, 1, api.ErrNet}, {6, 6, 15, 1, api.ErrNet},
		{6, 6, 1, 0, api.ErrNet}, {6, 6, 8, 0, api.ErrNet}, {6, 6, 1, 8, api.OK}, {6, 6, 1, 9, api.ErrNet}, {6, 6, 8, 9, api.ErrNet},
		{6, 6, 0, 0, api.OK},
	} {
		n := counted(c.sites, c.subs, c.weds, c.offsets)
		if e := Check(n); e != c.want {
			t.Error(c, int(e))
		}
		hold(t, n)
	}
	if e := Check(api.Net{}); e != api.ErrNet {
		t.Error(int(e))
	}
}

// P6.1, R1: a list that is too long is not gone through.
func TestListsWithoutEnd(t *testing.T) {
	for i, turn := range []func(n *api.Net){
		func(n *api.Net) { n.Sites = slices.Repeat(n.Sites, 1<<16) },
		func(n *api.Net) { n.Subs = slices.Repeat(n.Subs, 1<<18) },
		func(n *api.Net) { n.Weds = slices.Repeat(n.Weds, 1<<18) },
		func(n *api.Net) { n.Subs[0].Sites = make([]int, 1<<22) },
		func(n *api.Net) { n.Subs[2].Sites = slices.Repeat([]int{1}, 1<<22) },
		func(n *api.Net) { n.Weds[1].Offsets = make([]int, 1<<22) },
	} {
		n := mixed()
		if turn(&n); Check(n) != api.ErrNet {
			t.Error(i)
		}
	}
}

// P6.1: what is no number at its edge; each turn is told by the chapter alone.
func TestPartsThatDoNotFitTogether(t *testing.T) {
	wed := func(a, b int) api.Wed { return api.Wed{A: a, B: b, Votes: 1, Offsets: []int{0}} }
	for i, c := range []struct {
		turn func(n *api.Net)
		want api.Errno
	}{
		{func(n *api.Net) {}, api.OK},
		// Two of one Id; a site that may not be.
		{func(n *api.Net) { n.Sites[1].Id = 300 }, api.ErrNet},
		{func(n *api.Net) { n.Sites[3].Id = 300 }, api.ErrNet},
		{func(n *api.Net) { n.Sites[3].Id = 65535 }, api.ErrNet},
		{func(n *api.Net) { n.Sites[0].Id = 2 }, api.OK},
		{func(n *api.Net) { n.Sites[0].Watch = 0 }, api.ErrNet},
		{func(n *api.Net) { n.Sites[3].Groups[0].Kind = 0 }, api.ErrNet},
		{func(n *api.Net) { n.Sites[2] = api.Site{} }, api.ErrNet},
		{func(n *api.Net) { n.Sites[1].Low, n.Sites[1].High = 500, 50 }, api.ErrNet},
		// A site that is in no sub, in two, twice in one; places of no site.
		{func(n *api.Net) { n.Sites = append(n.Sites, one(1, 1, top)) }, api.ErrNet},
		{func(n *api.Net) { n.Subs[0] = api.Sub{Sites: []int{0}, Critical: 0} }, api.ErrNet},
		{func(n *api.Net) { n.Subs[0] = api.Sub{Sites: []int{3}, Critical: 3} }, api.ErrNet},
		{func(n *api.Net) { n.Subs[2].Sites = []int{1, 3} }, api.ErrNet},
		{func(n *api.Net) { n.Subs[2].Sites = []int{0, 1} }, api.ErrNet},
		{func(n *api.Net) { n.Subs[0].Sites = []int{3, 0, 3} }, api.ErrNet},
		{func(n *api.Net) { n.Subs[0].Sites = []int{0, 0} }, api.ErrNet},
		{func(n *api.Net) { n.Subs[0].Sites = []int{3, 0, 4} }, api.ErrNet},
		{func(n *api.Net) { n.Subs[0].Sites = []int{3, 0, -1} }, api.ErrNet},
		{func(n *api.Net) { n.Subs[0].Sites = []int{-1, 3, 0} }, api.ErrNet},
		{func(n *api.Net) { n.Subs[0].Sites = []int{0, 3} }, api.OK},
		{func(n *api.Net) { n.Subs[0], n.Subs[1] = n.Subs[1], n.Subs[0] }, api.OK},
		{func(n *api.Net) { n.Subs[1].Sites, n.Subs[2].Sites = n.Subs[2].Sites, n.Subs[1].Sites }, api.ErrNet},
		{func(n *api.Net) { n.Sites = n.Sites[:3] }, api.ErrNet},
		// A sub without sites, whatever its Critical is.
		{func(n *api.Net) { n.Subs = append(n.Subs, api.Sub{}) }, api.ErrNet},
		{func(n *api.Net) { n.Subs = append(n.Subs, api.Sub{Sites: []int{}, Critical: 1}) }, api.ErrNet},
		{func(n *api.Net) { n.Subs = append([]api.Sub{{}}, n.Subs...) }, api.ErrNet},
		{func(n *api.Net) { n.Subs[1].Sites = nil }, api.ErrNet},
		// A Critical that is no site of its sub: of another one ahead or behind, a number in the sub's list, no site.
		{func(n *api.Net) { n.Subs[0].Critical = 3 }, api.OK},
		{func(n *api.Net) { n.Subs[0].Critical = 1 }, api.ErrNet},
		{func(n *api.Net) { n.Subs[0].Critical = 2 }, api.ErrNet},
		{func(n *api.Net) { n.Subs[1].Critical = 0 }, api.ErrNet},
		{func(n *api.Net) { n.Subs[2].Critical = 0 }, api.ErrNet},
		{func(n *api.Net) { n.Subs[2].Critical = 2 }, api.ErrNet},
		{func(n *api.Net) { n.Subs[2].Critical = 3 }, api.ErrNet},
		{func(n *api.Net) { n.Subs[0].Critical = -1 }, api.ErrNet},
		{func(n *api.Net) { n.Subs[0].Critical = 4 }, api.ErrNet},
		// Weds: the same ones, the wrong way round, of one sub, of no sub; A alone or B alone may be the same.
		{func(n *api.Net) { n.Weds = nil }, api.OK},
		{func(n *api.Net) { n.Weds = []api.Wed{} }, api.OK},
		{func(n *api.Net) { n.Weds = []api.Wed{wed(0, 1), wed(0, 2), wed(1, 2)} }, api.OK},
		{func(n *api.Net) { n.Weds = []api.Wed{wed(1, 2), wed(0, 1), wed(0, 2)} }, api.OK},
		{func(n *api.Net) { n.Weds = []api.Wed{wed(0, 1), wed(0, 1)} }, api.ErrNet},
		{func(n *api.Net) { n.Weds = []api.Wed{wed(1, 2), wed(0, 1), wed(1, 2)} }, api.ErrNet},
		{func(n *api.Net) { n.Weds = append(n.Weds, wed(0, 2)) }, api.ErrNet},
		{func(n *api.Net) { n.Weds = append(n.Weds, wed(2, 0)) }, api.ErrNet},
		{func(n *api.Net) { n.Weds = append(n.Weds, wed(0, 1)) }, api.OK},
		{func(n *api.Net) { n.Weds = []api.Wed{wed(1, 0)} }, api.ErrNet},
		{func(n *api.Net) { n.Weds = []api.Wed{wed(2, 1)} }, api.ErrNet},
		{func(n *api.Net) { n.Weds = []api.Wed{wed(0, 0)} }, api.ErrNet},
		{func(n *api.Net) { n.Weds = []api.Wed{wed(1, 1)} }, api.ErrNet},
		{func(n *api.Net) { n.Weds = []api.Wed{wed(2, 2)} }, api.ErrNet},
		{func(n *api.Net) { n.Weds = []api.Wed{wed(0, 3)} }, api.ErrNet},
		{func(n *api.Net) { n.Weds = []api.Wed{wed(-1, 1)} }, api.ErrNet},
		{func(n *api.Net) { n.Weds = []api.Wed{wed(3, 4)} }, api.ErrNet},
		{func(n *api.Net) { n.Weds = []api.Wed{wed(math.MaxInt, 1)} }, api.ErrNet},
		{func(n *api.Net) { n.Weds = []api.Wed{wed(math.MaxInt, math.MinInt)} }, api.ErrNet},
		{func(n *api.Net) { n.Weds = []api.Wed{{}} }, api.ErrNet},
		// Offsets: none, the same ones.
		{func(n *api.Net) { n.Weds[0].Offsets = nil }, api.ErrNet},
		{func(n *api.Net) { n.Weds[1].Offsets = []int{} }, api.ErrNet},
		{func(n *api.Net) { n.Weds[1].Offsets = []int{5, 5, 5} }, api.OK},
	} {
		n := mixed()
		c.turn(&n)
		if e := Check(n); e != c.want {
			t.Error(i, int(e), "not", int(c.want), n)
		}
		hold(t, n)
	}
}

// P6.1: an Id, a place and a pair of places may be like numbers, as they are marks of other sorts.
func TestNumbersOfOtherSortsMayBeAlike(t *testing.T) {
	for perm := range 24 {
		n := counted(4, 4, 6, 1)
		for i := range n.Sites {
			n.Sites[i].Id = (i*7 + perm) % 5
		}
		if e := Check(n); e != api.OK {
			t.Error(perm, int(e))
		}
	}
}

// ints are all numbers of a region itself, and its sites' Ids, Lows and Highs.
func ints(n *api.Net) []*int {
	list := []*int{&n.Low, &n.High, &n.Step}
	for i := range n.Sites {
		list = append(list, &n.Sites[i].Id, &n.Sites[i].Low, &n.Sites[i].High)
	}
	for i := range n.Subs {
		list = append(list, &n.Subs[i].Critical)
		for j := range n.Subs[i].Sites {
			list = append(list, &n.Subs[i].Sites[j])
		}
	}
	for i := range n.Weds {
		list = append(list, &n.Weds[i].A, &n.Weds[i].B, &n.Weds[i].Votes)
		for j := range n.Weds[i].Offsets {
			list = append(list, &n.Weds[i].Offsets[j])
		}
	}
	return list
}

// P6.1: each number of each sort of region, one at a time, at every number that bounds one.
func TestEachNumberAgainstTheWords(t *testing.T) {
	bounds := []int{math.MinInt, -1, 0, 1, 2, 3, 4, 5, 6, 7, 8, 9, 11, 12, 13, 63, 64, 65, 65535, 65536, top - 1, top, top + 1, 1 << 32, math.MaxInt}
	for _, n := range []api.Net{example(), mixed(), least(), greatest()} {
		for _, p := range ints(&n) {
			old := *p
			for _, x := range append(bounds, old-2, old-1, old+1, old+2, -old) {
				*p = x
				hold(t, n)
			}
			*p = old
		}
		hold(t, n)
	}
}

// turnParts takes one of the region's parts away, or puts one there twice.
func turnParts(chance *rand.Rand, n *api.Net) {
	cut := func(many int) int { return chance.IntN(many + 1) }
	switch chance.IntN(5) {
	case 0:
		n.Sites = append(slices.Clone(n.Sites[:cut(len(n.Sites))]), n.Sites[cut(len(n.Sites)):]...)
	case 1:
		n.Subs = append(slices.Clone(n.Subs[:cut(len(n.Subs))]), n.Subs[cut(len(n.Subs)):]...)
	case 2:
		n.Weds = append(slices.Clone(n.Weds[:cut(len(n.Weds))]), n.Weds[cut(len(n.Weds)):]...)
	case 3:
		sub := &n.Subs[chance.IntN(len(n.Subs))]
		sub.Sites = append(slices.Clone(sub.Sites[:cut(len(sub.Sites))]), sub.Sites[cut(len(sub.Sites)):]...)
	case 4:
		i, j := chance.IntN(len(n.Sites)), chance.IntN(len(n.Sites))
		n.Sites[i], n.Sites[j] = n.Sites[j], n.Sites[i]
	}
}

// P6.1: some numbers a little beside what they were, in regions of all sizes.
func TestSpreadRegionsAgainstTheWords(t *testing.T) {
	chance, well := rand.New(rand.NewPCG(6, 3)), 0
	for range 30000 {
		n := some(chance)
		if chance.IntN(4) == 0 {
			turnParts(chance, &n)
		}
		numbers := ints(&n)
		for range chance.IntN(3) {
			*numbers[chance.IntN(len(numbers))] += chance.IntN(5) - 2
		}
		hold(t, n)
		if Check(n) == api.OK {
			well++
		}
	}
	if well < 5000 || well > 25000 {
		t.Error("too few of one sort:", well)
	}
}
