package net

import (
	"math"
	"math/rand/v2"
	"reflect"
	"slices"
	"testing"

	"stopline/api"
)

// The rows of the chapter's Examples.
func TestExamples(t *testing.T) {
	n := example()
	if e := Check(n); e != api.OK {
		t.Error("Check", int(e))
	}
	if u, e := Sub(n, 1); u != 1 || e != api.OK {
		t.Error("Sub", u, int(e))
	}
	if p, e := Site(n, 1); p != 1 || e != api.OK {
		t.Error("Site", p, int(e))
	}
	if l, e := Cycles(n); !slices.Equal(l, []int{8, 12, 16, 20}) || e != api.OK {
		t.Error("Cycles", l, int(e))
	}
	for i, turn := range []func(n *api.Net){
		func(n *api.Net) { n.Step = 5 },
		func(n *api.Net) { n.High = 24 },
		func(n *api.Net) { n.Subs[1] = api.Sub{Sites: []int{0}, Critical: 0} },
		func(n *api.Net) { n.Weds[0].A, n.Weds[0].B = 1, 0 },
		func(n *api.Net) { n.Sites[1].Id = 0 },
	} {
		n := example()
		if turn(&n); Check(n) != api.ErrNet {
			t.Error("Check", i)
		}
	}
	if u, e := Sub(n, 2); u != 0 || e != api.ErrArg {
		t.Error("Sub", u, int(e))
	}
	if p, e := Site(n, 9); p != 0 || e != api.ErrArg {
		t.Error("Site", p, int(e))
	}
	if n, e := Read(nil); !isNoNet(n) || e != api.ErrBad {
		t.Error("Read", n, int(e))
	}
}

// around are places of a list of so many, and those beyond, up to the ends of int.
func around(many int) []int {
	list := []int{math.MinInt, math.MinInt + 1, -1 << 32, -many, -2, -1, many + 1, 1 << 32, 1<<32 + 1, math.MaxInt - 1, math.MaxInt}
	for i := range many + 1 {
		list = append(list, i)
	}
	return list
}

// P6.2
func TestSub(t *testing.T) {
	for _, n := range nets() {
		for _, place := range around(len(n.Sites)) {
			want, e := 0, api.ErrArg
			for i, sub := range n.Subs {
				if slices.Contains(sub.Sites, place) {
					want, e = i, api.OK
				}
			}
			if got, err := Sub(n, place); got != want || err != e {
				t.Fatal(place, got, int(err), "not", want, int(e), n)
			}
		}
	}
	n := mixed()
	for place, want := range []int{0, 2, 1, 0} {
		if got, e := Sub(n, place); got != want || e != api.OK {
			t.Error(place, got, int(e))
		}
	}
}

// P6.2
func TestSite(t *testing.T) {
	for _, n := range nets() {
		ids := append(around(45), 299, 300, 301, 65534, 65535, 65536, 65535+1<<32)
		for _, id := range ids {
			want, e := 0, api.ErrArg
			for i, s := range n.Sites {
				if s.Id == id {
					want, e = i, api.OK
				}
			}
			if got, err := Site(n, id); got != want || err != e {
				t.Fatal(id, got, int(err), "not", want, int(e), n)
			}
		}
	}
	n := mixed()
	for want, id := range []int{300, 7, 65535, 3} {
		if got, e := Site(n, id); got != want || e != api.OK {
			t.Error(id, got, int(e))
		}
	}
}

// P6.2
func TestCycles(t *testing.T) {
	for _, n := range nets() {
		var want []int
		for cycle := range n.High + 1 {
			if cycle >= n.Low && (cycle-n.Low)%n.Step == 0 {
				want = append(want, cycle)
			}
		}
		if got, e := Cycles(n); !slices.Equal(got, want) || e != api.OK {
			t.Fatal(got, int(e), "not", want)
		}
	}
	for _, c := range []struct {
		low, high, step int
		want            []int
	}{
		{100, 160, 20, []int{100, 120, 140, 160}},
		{100, 160, 60, []int{100, 160}},
		{100, 100, 60, []int{100}},
		{160, 160, top, []int{160}},
	} {
		n := mixed()
		n.Low, n.High, n.Step = c.low, c.high, c.step
		if got, e := Cycles(n); !slices.Equal(got, c.want) || e != api.OK {
			t.Error(c, got, int(e))
		}
	}
	// 64 steps are 65 cycles.
	if got, e := Cycles(greatest()); len(got) != 65 || got[0] != top-64*5000 || got[64] != top || e != api.OK {
		t.Error(got, int(e))
	}
}

// wrongs are regions that may not be, each in another way.
func wrongs() []api.Net {
	list := []api.Net{{}, counted(13, 6, 0, 1), counted(12, 7, 0, 1), counted(6, 6, 9, 1), counted(6, 6, 1, 9), counted(0, 1, 0, 1), counted(1, 0, 0, 1)}
	for _, turn := range []func(n *api.Net){
		func(n *api.Net) { n.Sites[3].Watch = 0 },
		func(n *api.Net) { n.Sites[3].Id = 300 },
		func(n *api.Net) { n.Subs[0].Critical = 1 },
		func(n *api.Net) { n.Subs[2].Sites = []int{0} },
		func(n *api.Net) { n.Sites = append(n.Sites, one(8, 1, top)) },
		func(n *api.Net) { n.Step = 0 },
		func(n *api.Net) { n.Step = 7 },
		func(n *api.Net) { n.Low = 160; n.High = 100 },
		func(n *api.Net) { n.Sites[3].Low = 101 },
		func(n *api.Net) { n.Weds[1].B = 3 },
		func(n *api.Net) { n.Weds[1].Offsets[0] = 100 },
	} {
		n := mixed()
		turn(&n)
		list = append(list, n)
	}
	return list
}

// P6.1, P6.2: of a region that may not be each call tells Check's error, whatever the number is, and nothing else.
func TestChecksErrorComesFirst(t *testing.T) {
	for i, n := range wrongs() {
		if e := Check(n); e != api.ErrNet {
			t.Error("Check", i, int(e))
		}
		for _, x := range append(around(12), 300, 65535) {
			if u, e := Sub(n, x); u != 0 || e != api.ErrNet {
				t.Error("Sub", i, x, u, int(e))
			}
			if p, e := Site(n, x); p != 0 || e != api.ErrNet {
				t.Error("Site", i, x, p, int(e))
			}
		}
		if l, e := Cycles(n); len(l) != 0 || e != api.ErrNet {
			t.Error("Cycles", i, l, int(e))
		}
		if b, e := Write(n); len(b) != 0 || e != api.ErrNet {
			t.Error("Write", i, b, int(e))
		}
	}
}

// P6.4, and W5 as far as a region reaches: each site is in the sub that Sub tells, and in no other; each cycle is one that all sites may have.
func TestWhatFollows(t *testing.T) {
	for _, n := range nets() {
		for place, s := range n.Sites {
			told, _ := Sub(n, place)
			for i, sub := range n.Subs {
				if slices.Contains(sub.Sites, place) != (i == told) {
					t.Fatal("site", place, "sub", i, "told", told)
				}
			}
			if back, e := Site(n, s.Id); back != place || e != api.OK {
				t.Fatal("Site", place, back, int(e))
			}
		}
		for i, sub := range n.Subs {
			if told, e := Sub(n, sub.Critical); told != i || e != api.OK {
				t.Fatal("Critical", i, told, int(e))
			}
		}
		cycles, _ := Cycles(n)
		for i, cycle := range cycles {
			if i > 0 && cycle <= cycles[i-1] {
				t.Fatal("cycles do not rise", cycles)
			}
			for _, s := range n.Sites {
				if cycle < s.Low || cycle > s.High {
					t.Fatal("a cycle that a site may not have", cycle, s)
				}
			}
		}
		if cycles[0] != n.Low || cycles[len(cycles)-1] != n.High {
			t.Fatal("cycles do not go from Low to High", cycles)
		}
	}
}

// withRoom is a list with room behind it that is not nought.
func withRoom[T any](list []T, x T) []T {
	return append(append(make([]T, 0, len(list)+3), list...), x, x, x)[:len(list)]
}

// full is a copy of a list with its spare room as elements.
func full[T any](list []T) []T { return slices.Clone(list[:cap(list)]) }

func roomy(n api.Net) api.Net {
	n = clone(n)
	for i := range n.Sites {
		s := &n.Sites[i]
		s.Groups, s.Apart, s.Phases = withRoom(s.Groups, api.Group{Kind: 7}), withRoom(s.Apart, 77), withRoom(s.Phases, api.Phase{Min: 7})
		s.Eyes, s.Plans = withRoom(s.Eyes, api.Eye{On: 7}), withRoom(s.Plans, api.Plan{Cycle: 7})
	}
	for i := range n.Subs {
		n.Subs[i].Sites = withRoom(n.Subs[i].Sites, 77)
	}
	for i := range n.Weds {
		n.Weds[i].Offsets = withRoom(n.Weds[i].Offsets, 77)
	}
	n.Sites, n.Subs, n.Weds = withRoom(n.Sites, two(77)), withRoom(n.Subs, api.Sub{Critical: 7}), withRoom(n.Weds, api.Wed{A: 7})
	return n
}

// whole is a copy of a region with all spare room of its lists as elements.
func whole(n api.Net) api.Net {
	n.Sites, n.Subs, n.Weds = full(n.Sites), full(n.Subs), full(n.Weds)
	for i := range n.Sites {
		s := cloneSite(n.Sites[i])
		s.Groups, s.Apart, s.Phases = full(n.Sites[i].Groups), full(n.Sites[i].Apart), full(n.Sites[i].Phases)
		s.Eyes, s.Plans = full(n.Sites[i].Eyes), full(n.Sites[i].Plans)
		n.Sites[i] = s
	}
	for i := range n.Subs {
		n.Subs[i].Sites = full(n.Subs[i].Sites)
	}
	for i := range n.Weds {
		n.Weds[i].Offsets = full(n.Weds[i].Offsets)
	}
	return n
}

// P6.3, R2: what is handed in stays as it was, its spare room too, and the answers stay the same.
func TestRegionsAreOnlyRead(t *testing.T) {
	chance := rand.New(rand.NewPCG(6, 4))
	for i := range 100 {
		n := roomy(some(chance))
		if i%4 == 0 {
			n.Weds = append(n.Weds, api.Wed{A: 1})
		}
		before := whole(n)
		first, e := Write(n)
		for range 2 {
			Check(n)
			Sub(n, 0)
			Site(n, 0)
			Cycles(n)
			if b, again := Write(n); !slices.Equal(first, b) || e != again {
				t.Fatal("Write told another thing")
			}
		}
		if !reflect.DeepEqual(before, whole(n)) {
			t.Fatal("a region was changed")
		}
	}
}

// P6.3: neither what was answered ahead, nor what a caller does to it, is seen in a later answer.
func TestCyclesAreNewMemory(t *testing.T) {
	n := mixed()
	first, _ := Cycles(n)
	second, _ := Cycles(n)
	first = first[:cap(first)]
	for i := range first {
		first[i] = -5
	}
	third, _ := Cycles(n)
	if want := []int{100, 120, 140, 160}; !slices.Equal(second, want) || !slices.Equal(third, want) || !sameNet(n, mixed()) {
		t.Error(second, third)
	}
}
