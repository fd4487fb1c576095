package ring

import (
	"math"
	"math/big"
	"math/rand/v2"
	"slices"
	"testing"

	"stopline/api"
)

// sizes are those at which something turns: the limits, and the borders of pieces with their neighbours.
var sizes = []int{1, 2, 3, 5, 63, 64, 65, 127, 128, 129, 960, 961, 1000, 1023, 1024}

func newRing(t *testing.T, n int) *Ring {
	t.Helper()
	r, e := New(n)
	if e != api.OK || r == nil {
		t.Fatal("New", n, r, e)
	}
	return r
}

func push(t *testing.T, r *Ring, list ...int) {
	t.Helper()
	for _, x := range list {
		if e := r.Push(x); e != api.OK {
			t.Fatal("Push", x, e)
		}
	}
}

func last(list []int, n int) []int { return list[max(0, len(list)-n):] }

func stoppedSum(list []int) int {
	sum, top := new(big.Int), big.NewInt(1<<62)
	for _, x := range list {
		sum.Add(sum, big.NewInt(int64(x)))
	}
	switch {
	case sum.Cmp(top) > 0:
		return 1 << 62
	case sum.Cmp(new(big.Int).Neg(top)) < 0:
		return -1 << 62
	}
	return int(sum.Int64())
}

// hold holds a ring for n numbers against all that was pushed into it.
func hold(t *testing.T, r *Ring, n int, pushed []int) {
	t.Helper()
	want := last(pushed, n)
	if all, e := r.All(); e != api.OK || !slices.Equal(all, want) {
		t.Fatal("All", n, len(pushed), all, e)
	}
	for i := range want {
		if x, e := r.At(i); e != api.OK || x != want[len(want)-1-i] {
			t.Fatal("At", n, len(pushed), i, x, e)
		}
	}
	for _, i := range []int{math.MinInt, math.MinInt + 1, -n - 1, -n, -2, -1, len(want), len(want) + 1, n, n + 1, n + len(want), math.MaxInt - 1, math.MaxInt} {
		if i >= 0 && i < len(want) {
			continue
		}
		if x, e := r.At(i); e != api.ErrArg || x != 0 {
			t.Fatal("At beyond", n, len(pushed), i, x, e)
		}
	}
	if sum, e := r.Sum(); e != api.OK || sum != stoppedSum(want) {
		t.Fatal("Sum", n, len(pushed), sum, stoppedSum(want), e)
	}
	if r.Full() != (len(want) == n) {
		t.Fatal("Full", n, len(pushed), r.Full())
	}
}

// P2.1
func TestNewTakesFromOneToMaxRing(t *testing.T) {
	for n := 1; n <= api.MaxRing; n++ {
		hold(t, newRing(t, n), n, nil)
	}
	for _, n := range []int{0, -1, -2, -api.MaxRing, api.MaxRing + 1, api.MaxRing + 2, 2 * api.MaxRing, 1 << 32, 1<<32 + 1, 1<<62 + 1, math.MaxInt, math.MinInt, math.MinInt + 1} {
		if r, e := New(n); e != api.ErrArg || r != nil {
			t.Error(n, r, e)
		}
	}
}

// P2.1
func TestMethodsOfRingsThatNewDidNotMake(t *testing.T) {
	for name, r := range map[string]*Ring{"nil": nil, "zero": {}, "new": new(Ring)} {
		for _, x := range []int{0, 1, -1, math.MinInt, math.MaxInt} {
			if e := r.Push(x); e != api.ErrNil {
				t.Error(name, "Push", x, e)
			}
			if y, e := r.At(x); e != api.ErrNil || y != 0 {
				t.Error(name, "At", x, y, e)
			}
		}
		if all, e := r.All(); e != api.ErrNil || len(all) != 0 {
			t.Error(name, "All", all, e)
		}
		if sum, e := r.Sum(); e != api.ErrNil || sum != 0 {
			t.Error(name, "Sum", sum, e)
		}
		if r.Full() {
			t.Error(name, "Full")
		}
	}
}

// P2.2, P2.5: none, fewer than n, just n, and many more than n.
func TestRingHasTheLastOnes(t *testing.T) {
	for _, n := range sizes {
		r, pushed := newRing(t, n), []int{}
		for i := range 3*n + 2 {
			// Held at each push near the turns alone: a ring of a thousand is long.
			if n < 200 || i%n < 3 || i%n > n-3 {
				hold(t, r, n, pushed)
			}
			x := (i + 1) * 1000003 * (1 - i%2*2)
			push(t, r, x)
			pushed = append(pushed, x)
		}
		hold(t, r, n, pushed)
	}
}

// P2.2, W8: the sum is exact first, and stopped then.
func TestSumIsExactAndThenStopped(t *testing.T) {
	const top = 1 << 62
	least, most := math.MinInt, math.MaxInt
	for _, list := range [][]int{
		{},
		{0}, {-1}, {most}, {least},
		{top}, {top - 1}, {top + 1}, {-top}, {-top + 1}, {-top - 1},
		{top, 1}, {top, -1}, {-top, 1}, {-top, -1}, {top, 1, -1}, {-top, -1, 1},
		{top - 1, 1}, {top - 1, 2}, {-top + 1, -1}, {-top + 1, -2},
		{most, least}, {most, most}, {least, least}, {least, least, most, most, 2}, {least, least, most, most, 1},
		{most, most, most, least, least, least}, {least, least, least, most, most, most},
		{most, most, -top, -top, -top}, {most, most, -top, -top, -top, 1}, {least, least, top, top, top}, {least, least, top, top, top, -1},
		{1 << 32, -1}, {1<<32 - 1, 1}, {-1 << 32, 1}, {-1 << 32, -1}, {1<<31 - 1, 1}, {-1 << 31, -1},
	} {
		n := max(1, len(list))
		r := newRing(t, n)
		push(t, r, list...)
		hold(t, r, n, list)
	}
}

// P2.2, W8: as many as a ring may have, all at an end of int.
func TestSumOfAFullRingOfEnds(t *testing.T) {
	for _, x := range []int{math.MinInt, math.MaxInt, -1, 1<<32 - 1} {
		r := newRing(t, api.MaxRing)
		list := slices.Repeat([]int{x}, api.MaxRing)
		push(t, r, list...)
		hold(t, r, api.MaxRing, list)
	}
	half := slices.Repeat([]int{math.MinInt}, api.MaxRing/2)
	list := append(half, slices.Repeat([]int{math.MaxInt}, api.MaxRing/2)...)
	r := newRing(t, api.MaxRing)
	push(t, r, list...)
	hold(t, r, api.MaxRing, list)
	if sum, _ := r.Sum(); sum != -api.MaxRing/2 {
		t.Error(sum)
	}
}

// P2.2, P2.5: numbers of all lengths, the same ones in each run.
func TestRingOfSpreadNumbers(t *testing.T) {
	source := rand.New(rand.NewPCG(3, 4))
	for range 300 {
		n := 1 + source.IntN(12)
		r, pushed := newRing(t, n), []int{}
		for range source.IntN(40) {
			x := int(source.Uint64()) >> source.IntN(64)
			push(t, r, x)
			pushed = append(pushed, x)
			hold(t, r, n, pushed)
		}
	}
}

// P2.2: asking changes nothing, and rings know nothing of one another.
func TestRingsStandAlone(t *testing.T) {
	a, b := newRing(t, 3), newRing(t, 3)
	push(t, a, 1, 2, 3, 4)
	push(t, b, 7)
	for range 3 {
		hold(t, a, 3, []int{1, 2, 3, 4})
		hold(t, b, 3, []int{7})
	}
	copied := *a
	push(t, &copied, 9)
	hold(t, a, 3, []int{1, 2, 3, 4})
	hold(t, &copied, 3, []int{1, 2, 3, 4, 9})
}

// P2.4
func TestAllIsNewMemory(t *testing.T) {
	r := newRing(t, 4)
	pushed := []int{1, 2, 3, 4, 5, 6}
	for i, x := range pushed {
		push(t, r, x)
		first, _ := r.All()
		second, _ := r.All()
		kept := slices.Clone(second)
		first = first[:cap(first)]
		for j := range first {
			first[j] = -100
		}
		if !slices.Equal(second, kept) {
			t.Fatal("two answers share memory", i, second)
		}
		hold(t, r, 4, pushed[:i+1])
	}
	before, _ := r.All()
	push(t, r, 70, 80, 90, 100, 110)
	if !slices.Equal(before, []int{3, 4, 5, 6}) {
		t.Error("a push changed an answer", before)
	}
}

// numbers are all that a set may have, and those beyond, up to the ends of int.
func numbers() []int {
	list := []int{math.MinInt, math.MinInt + 1, math.MinInt32, -64, -33, -32, -31, 33, 63, 64, 65, 95, 96, 255, 256, 1 << 31, 1 << 32, 1<<32 + 1, 1 << 62, math.MaxInt - 1, math.MaxInt}
	for i := -1; i <= 32; i++ {
		list = append(list, i)
	}
	return list
}

func sets() []uint32 {
	list := []uint32{0, 1, 5, 1 << 31, 1<<31 | 1, math.MaxUint32, math.MaxUint32 - 1, math.MaxUint32 >> 1, 0x55555555, 0xaaaaaaaa, 0xffff, 0xffff0000}
	source := rand.New(rand.NewPCG(5, 6))
	for range 200 {
		list = append(list, source.Uint32()&source.Uint32(), source.Uint32())
	}
	for i := range 32 {
		list = append(list, 1<<i, ^uint32(1<<i))
	}
	return list
}

// members are a set's numbers by its worth alone: halved again and again, what is odd has the number.
func members(s uint32) []int {
	list := []int{}
	for i := 0; s > 0; i++ {
		if s%2 == 1 {
			list = append(list, i)
		}
		s /= 2
	}
	return list
}

// P2.3, P2.5: With and Without change no other number.
func TestSets(t *testing.T) {
	for _, s := range sets() {
		for _, i := range numbers() {
			in := slices.Contains(members(s), i)
			if Has(s, i) != in {
				t.Fatal("Has", s, i)
			}
			with, without := members(s), members(s)
			if i >= 0 && i <= 31 && !in {
				with = append(with, i)
				slices.Sort(with)
			}
			if in {
				without = slices.DeleteFunc(without, func(j int) bool { return j == i })
			}
			if got := members(With(s, i)); !slices.Equal(got, with) {
				t.Fatal("With", s, i, got, with)
			}
			if got := members(Without(s, i)); !slices.Equal(got, without) {
				t.Fatal("Without", s, i, got, without)
			}
		}
	}
}

// P2.3
func TestCountAndLeast(t *testing.T) {
	for _, s := range sets() {
		list := members(s)
		if Count(s) != len(list) {
			t.Error("Count", s, Count(s))
		}
		least := -1
		if len(list) > 0 {
			least = list[0]
		}
		if Least(s) != least {
			t.Error("Least", s, Least(s))
		}
	}
}

// P2.5
func TestASetIsWhatWithMakesOfItsNumbers(t *testing.T) {
	source := rand.New(rand.NewPCG(7, 8))
	for _, s := range sets() {
		for range 4 {
			list := members(s)
			source.Shuffle(len(list), func(i, j int) { list[i], list[j] = list[j], list[i] })
			made := uint32(0)
			for _, i := range list {
				made = With(made, i)
			}
			if made != s {
				t.Fatal(s, list, made)
			}
		}
	}
}

// P2.5
func TestTakingTheLeastAwayTellsAllRising(t *testing.T) {
	for _, s := range sets() {
		told := []int{}
		for rest := s; Least(rest) >= 0 && len(told) <= 32; rest = Without(rest, Least(rest)) {
			told = append(told, Least(rest))
		}
		if !slices.Equal(told, members(s)) {
			t.Fatal(s, told)
		}
	}
}

// The rows of the chapter's Examples.
func TestExamples(t *testing.T) {
	r := newRing(t, 2)
	if x, e := r.At(0); x != 0 || e != api.ErrArg {
		t.Error("At(0) of a new one", x, e)
	}
	push(t, r, 5, 6, 7)
	if all, e := r.All(); !slices.Equal(all, []int{6, 7}) || e != api.OK {
		t.Error("All", all, e)
	}
	for i, c := range []struct {
		x int
		e api.Errno
	}{{7, api.OK}, {6, api.OK}, {0, api.ErrArg}} {
		if x, e := r.At(i); x != c.x || e != c.e {
			t.Error("At", i, x, e)
		}
	}
	if sum, e := r.Sum(); sum != 13 || e != api.OK || !r.Full() {
		t.Error("Sum, Full", sum, e, r.Full())
	}
	if !Has(5, 2) || With(5, 1) != 7 || Without(5, 0) != 4 || Count(5) != 2 || Least(4) != 2 || Least(0) != -1 {
		t.Error("the second row")
	}
	if Has(1, -1) || With(1, 32) != 1 {
		t.Error("the third row")
	}
	for _, n := range []int{0, 1025} {
		if r, e := New(n); r != nil || e != api.ErrArg {
			t.Error("New", n, r, e)
		}
	}
}
