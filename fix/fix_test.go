package fix

import (
	"math"
	"math/big"
	"math/rand/v2"
	"testing"

	"stopline/api"
)

const (
	one = int64(api.Unit)
	top = int64(api.Top)
)

// edges are the numbers at which something turns: signs, halves, one, Top, the ends of a word, each with its neighbours.
func edges() []int64 {
	list := []int64{math.MinInt64, math.MinInt64 + 1, math.MaxInt64 - 1, math.MaxInt64, 0}
	for _, x := range []int64{1, 3, 7, 32768, one, 98304, 3 * one, 1 << 30, 1 << 31, 1 << 32, 1 << 45, top - 1, top, top + 1, 1 << 47, 1 << 48, 1 << 62} {
		for d := int64(-1); d <= 1; d++ {
			list = append(list, x+d, -x+d)
		}
	}
	return list
}

// spread are the same numbers in each run, of all lengths and of both signs.
func spread(many int) []int64 {
	source := rand.New(rand.NewPCG(1, 2))
	list := make([]int64, many)
	for i := range list {
		list[i] = int64(source.Uint64()) >> source.IntN(64)
	}
	return list
}

func wide(x int64) *big.Int { return big.NewInt(x) }

func stopped(x *big.Int) int64 {
	switch {
	case x.Cmp(wide(top)) > 0:
		return top
	case x.Cmp(wide(-top)) < 0:
		return -top
	}
	return x.Int64()
}

func asFixed(x int64) *big.Int { return wide(stopped(wide(x))) }

// down divides rounding down; big's own Div does so for divisors above 0 alone.
func down(a, b *big.Int) *big.Int {
	if b.Sign() < 0 {
		a, b = new(big.Int).Neg(a), new(big.Int).Neg(b)
	}
	return new(big.Int).Div(a, b)
}

func pairs(visit func(a, b int64)) {
	for _, a := range edges() {
		for _, b := range edges() {
			visit(a, b)
		}
	}
	list := spread(20000)
	for i := 1; i < len(list); i++ {
		visit(list[i-1], list[i])
	}
}

func triples(visit func(a, b, c int64)) {
	for _, a := range edges() {
		for _, b := range edges() {
			for _, c := range edges() {
				visit(a, b, c)
			}
		}
	}
	list := spread(20000)
	for i := 2; i < len(list); i++ {
		visit(list[i-2], list[i-1], list[i])
		visit(list[i-2], list[i-1], list[i]&(2*one-1))
	}
}

// The numbers that the document gives: all else here is told by their names.
func TestGivenNumbers(t *testing.T) {
	if one != 65536 || top != 70368744177664 || api.ErrDiv != 10 || api.OK != 0 {
		t.Error(one, top, int(api.ErrDiv), int(api.OK))
	}
}

// Every row of the chapter's examples.
func TestExamples(t *testing.T) {
	div := func(a, b int64) int64 {
		x, err := Div(a, b)
		if err != api.OK {
			t.Errorf("Div(%d, %d): error %d", a, b, err)
		}
		return x
	}
	for i, c := range []struct{ got, want int64 }{
		{Mul(98304, 98304), 147456}, {Mul(1, -1), -1}, {div(65536, 196608), 21845},
		{Add(top, 5), top}, {Mul(top, -top), -top}, {div(top, 1), top},
		{Of(3), 196608}, {Of(1 << 40), top},
		{int64(Round(98303)), 1}, {int64(Round(98304)), 2}, {int64(Round(-32768)), 0},
		{Clamp(5, 1, 3), 3}, {Clamp(5, 7, 3), 7}, {Mix(0, 100, 32768), 50}, {Mix(0, -1, 1), -1},
	} {
		if c.got != c.want {
			t.Errorf("example %d: %d, not %d", i, c.got, c.want)
		}
	}
	if x, err := Div(1, 0); x != 0 || err != api.ErrDiv {
		t.Errorf("Div(1, 0): %d, error %d", x, err)
	}
}

// P1.1: sums and differences.
func TestAddSub(t *testing.T) {
	for i, c := range []struct{ a, b, sum, difference int64 }{
		{3 * one, 2 * one, 5 * one, one},
		{-3, 5, 2, -8},
		{top, 1, top, top - 1},
		{top - 1, 1, top, top - 2},
		{-top, -1, -top, 1 - top},
		{top + 9, -1, top - 1, top},
		{-top - 9, 1, 1 - top, -top},
		{math.MaxInt64, math.MaxInt64, top, 0},
		{math.MinInt64, math.MinInt64, -top, 0},
		{math.MinInt64, math.MaxInt64, 0, -top},
		{math.MaxInt64, math.MinInt64, 0, top},
		{0, math.MinInt64, -top, top},
	} {
		if x := Add(c.a, c.b); x != c.sum {
			t.Errorf("%d: Add(%d, %d): %d, not %d", i, c.a, c.b, x, c.sum)
		}
		if x := Sub(c.a, c.b); x != c.difference {
			t.Errorf("%d: Sub(%d, %d): %d, not %d", i, c.a, c.b, x, c.difference)
		}
	}
	pairs(func(a, b int64) {
		if x, want := Add(a, b), stopped(new(big.Int).Add(asFixed(a), asFixed(b))); x != want {
			t.Errorf("Add(%d, %d): %d, not %d", a, b, x, want)
		}
		if x, want := Sub(a, b), stopped(new(big.Int).Sub(asFixed(a), asFixed(b))); x != want {
			t.Errorf("Sub(%d, %d): %d, not %d", a, b, x, want)
		}
	})
}

// P1.1: products, exact ahead of being rounded down and stopped.
func TestMul(t *testing.T) {
	for i, c := range []struct{ a, b, want int64 }{
		{3 * one, 2 * one, 6 * one},
		{-3 * one, 2 * one, -6 * one},
		{-1, -1, 0},
		{1, 1, 0},
		{-1, 1, -1},
		{-98304, 1, -2},
		{1 << 31, 1 << 31, top},
		{1<<31 - 1, 1 << 31, top - 1<<15},
		{-1 << 31, 1 << 31, -top},
		{-1<<31 - 1, 1 << 31, -top},
		// (Top + 1) / 5 times 5: just beyond Top.
		{14073748835533, 5 * one, top},
		{-14073748835533, 5 * one, -top},
		{1 << 40, 1 << 40, top},
		{top, top, top},
		{-top, -top, top},
		{math.MaxInt64, math.MinInt64, -top},
		{math.MinInt64, math.MinInt64, top},
		{math.MinInt64, 1, -1 << 30},
		{math.MaxInt64, 0, 0},
	} {
		if x := Mul(c.a, c.b); x != c.want {
			t.Errorf("%d: Mul(%d, %d): %d, not %d", i, c.a, c.b, x, c.want)
		}
	}
	pairs(func(a, b int64) {
		want := stopped(down(new(big.Int).Mul(asFixed(a), asFixed(b)), wide(one)))
		if x := Mul(a, b); x != want {
			t.Errorf("Mul(%d, %d): %d, not %d", a, b, x, want)
		}
	})
}

// P1.1: quotients, and the one that is not there.
func TestDiv(t *testing.T) {
	for i, c := range []struct{ a, b, want int64 }{
		{one, 3 * one, 21845},
		{-one, 3 * one, -21846},
		{one, -3 * one, -21846},
		{-one, -3 * one, 21845},
		{-6 * one, 3 * one, -2 * one},
		{0, -1, 0},
		{1, top, 0},
		{-1, top, -1},
		{1, -top, -1},
		{top, 1, top},
		{top, -1, -top},
		{-top, -1, top},
		{math.MinInt64, -1, top},
		{math.MinInt64, math.MinInt64, one},
		{math.MaxInt64, math.MinInt64, -one},
		{1 << 30, 1, top},
		{1<<30 - 1, 1, top - one},
		{1<<30 + 1, 1, top},
		// Beyond Top by less than two.
		{1<<45 + 1<<30 + 1, 1<<15 + 1, top},
		{-1<<45 - 1<<30 - 1, 1<<15 + 1, -top},
		{1<<45 + 1<<30, 1<<15 + 1, top},
	} {
		if x, err := Div(c.a, c.b); x != c.want || err != api.OK {
			t.Errorf("%d: Div(%d, %d): %d, error %d, not %d", i, c.a, c.b, x, err, c.want)
		}
	}
	pairs(func(a, b int64) {
		x, err := Div(a, b)
		if b == 0 {
			if x != 0 || err != api.ErrDiv {
				t.Errorf("Div(%d, 0): %d, error %d", a, x, err)
			}
			return
		}
		want := stopped(down(new(big.Int).Mul(asFixed(a), wide(one)), asFixed(b)))
		if x != want || err != api.OK {
			t.Errorf("Div(%d, %d): %d, error %d, not %d", a, b, x, err, want)
		}
	})
}

// P1.2: whole numbers as fixed ones.
func TestOf(t *testing.T) {
	for i, c := range []struct {
		n    int
		want int64
	}{
		{0, 0}, {1, one}, {-1, -one}, {-3, -196608},
		{1<<30 - 1, top - one}, {1 << 30, top}, {1<<30 + 1, top},
		{1 - 1<<30, one - top}, {-1 << 30, -top}, {-1<<30 - 1, -top},
		{1 << 47, top}, {1 << 48, top}, {-1 << 48, -top}, {1<<48 + 1, top}, {-1<<48 - 1, -top},
		{math.MaxInt, top}, {math.MinInt, -top}, {math.MinInt + 1, -top},
	} {
		if x := Of(c.n); x != c.want {
			t.Errorf("%d: Of(%d): %d, not %d", i, c.n, x, c.want)
		}
	}
	for _, n := range append(edges(), spread(20000)...) {
		if x, want := Of(int(n)), stopped(new(big.Int).Mul(wide(n), wide(one))); x != want {
			t.Errorf("Of(%d): %d, not %d", n, x, want)
		}
	}
}

// P1.2: fixed numbers as whole ones, halves upwards.
func TestRound(t *testing.T) {
	for i, c := range []struct {
		x    int64
		want int
	}{
		{0, 0}, {32767, 0}, {32768, 1}, {one, 1},
		{-1, 0}, {-32769, -1}, {-98304, -1}, {-98305, -2},
		{top, 1 << 30}, {top - 32768, 1 << 30}, {top - 32769, 1<<30 - 1}, {-top, -1 << 30},
		{top + one, 1 << 30}, {-top - one, -1 << 30},
		{math.MaxInt64, 1 << 30}, {math.MinInt64, -1 << 30},
	} {
		if n := Round(c.x); n != c.want {
			t.Errorf("%d: Round(%d): %d, not %d", i, c.x, n, c.want)
		}
	}
	for _, x := range append(edges(), spread(20000)...) {
		want := down(new(big.Int).Add(asFixed(x), wide(32768)), wide(one)).Int64()
		if n := Round(x); int64(n) != want {
			t.Errorf("Round(%d): %d, not %d", x, n, want)
		}
	}
}

// P1.3: bounds, which may stand the wrong way round, and which are not stopped.
func TestClamp(t *testing.T) {
	for i, c := range []struct{ x, low, high, want int64 }{
		{0, 1, 3, 1}, {1, 1, 3, 1}, {2, 1, 3, 2}, {3, 1, 3, 3}, {4, 1, 3, 3},
		{5, 5, 5, 5}, {4, 5, 5, 5}, {6, 5, 5, 5},
		{2, 7, 3, 7}, {3, 7, 3, 7}, {7, 7, 3, 7}, {9, 7, 3, 7},
		{top + 5, 0, top + 9, top + 5}, {-top - 5, -top - 9, 0, -top - 5},
		{math.MaxInt64, math.MinInt64, math.MaxInt64, math.MaxInt64},
		{math.MinInt64, math.MinInt64, math.MaxInt64, math.MinInt64},
		{0, math.MaxInt64, math.MinInt64, math.MaxInt64},
	} {
		if x := Clamp(c.x, c.low, c.high); x != c.want {
			t.Errorf("%d: Clamp(%d, %d, %d): %d, not %d", i, c.x, c.low, c.high, x, c.want)
		}
	}
	triples(func(x, low, high int64) {
		if got, want := Clamp(x, low, high), max(low, min(x, high)); got != want {
			t.Errorf("Clamp(%d, %d, %d): %d, not %d", x, low, high, got, want)
		}
	})
}

// P1.3: parts below 0, at 0, within, at one and above; ways that one word does not hold.
func TestMix(t *testing.T) {
	for i, c := range []struct{ old, now, part, want int64 }{
		{100, 0, 32768, 50}, {100, 0, 1, 99}, {0, 100, 1, 0},
		{5, 9, -7, 5}, {5, 9, 0, 5}, {5, 9, 16384, 6}, {5, 9, one, 9}, {5, 9, one + 1, 9},
		{5, 9, math.MinInt64, 5}, {5, 9, math.MaxInt64, 9},
		{-top, top, one, top}, {-top, top, one - 1, top - 1<<31}, {-top, top, 32768, 0}, {-top, top, 1, -top + 1<<31},
		{top, -top, one, -top}, {top, -top, one - 1, -top + 1<<31}, {top, -top, 32768, 0},
		{math.MinInt64, math.MaxInt64, 32768, 0}, {math.MaxInt64, math.MinInt64, one, -top},
		{math.MaxInt64, 0, 0, top}, {0, math.MinInt64, one, -top},
	} {
		if x := Mix(c.old, c.now, c.part); x != c.want {
			t.Errorf("%d: Mix(%d, %d, %d): %d, not %d", i, c.old, c.now, c.part, x, c.want)
		}
	}
	triples(func(old, now, part int64) {
		way := new(big.Int).Sub(asFixed(now), asFixed(old))
		way = down(way.Mul(way, wide(max(0, min(part, one)))), wide(one))
		if x, want := Mix(old, now, part), way.Add(way, asFixed(old)).Int64(); x != want {
			t.Errorf("Mix(%d, %d, %d): %d, not %d", old, now, part, x, want)
		}
	})
}

func within(x int64) bool { return -top <= x && x <= top }

// P1.4 and W8: nothing that is answered is beyond Top, whatever comes.
func TestAnswersStayWithinTop(t *testing.T) {
	pairs(func(a, b int64) {
		quotient, _ := Div(a, b)
		for i, x := range []int64{Add(a, b), Sub(a, b), Mul(a, b), quotient, Of(int(a))} {
			if !within(x) {
				t.Errorf("call %d of (%d, %d): %d", i, a, b, x)
			}
		}
	})
	triples(func(a, b, c int64) {
		if x := Mix(a, b, c); !within(x) {
			t.Errorf("Mix(%d, %d, %d): %d", a, b, c, x)
		}
	})
}

// P1.4: which comes first does not matter; one changes nothing.
func TestOrderAndOne(t *testing.T) {
	pairs(func(a, b int64) {
		if Add(a, b) != Add(b, a) || Mul(a, b) != Mul(b, a) {
			t.Errorf("the order of %d and %d matters", a, b)
		}
	})
	for _, x := range append(edges(), spread(20000)...) {
		want := stopped(wide(x))
		quotient, err := Div(x, one)
		if Mul(x, one) != want || Mul(one, x) != want || quotient != want || err != api.OK {
			t.Errorf("%d by one: %d, %d, error %d", x, Mul(x, one), quotient, err)
		}
	}
}

// P1.4: there and back.
func TestRoundOfOf(t *testing.T) {
	const far = 1 << 30
	back := func(n int) {
		if got := Round(Of(n)); got != n {
			t.Errorf("Round(Of(%d)): %d", n, got)
		}
	}
	for n := -1000; n <= 1000; n++ {
		back(n)
		back(max(-far, -far+n))
		back(min(far, far+n))
	}
	for _, x := range spread(20000) {
		back(int(x % (far + 1)))
	}
}

// P1.4: what is mixed lies between its two, and is one of them at the ends.
func TestMixLiesBetween(t *testing.T) {
	triples(func(old, now, part int64) {
		from, to := stopped(wide(old)), stopped(wide(now))
		if x := Mix(old, now, part); x < min(from, to) || x > max(from, to) {
			t.Errorf("Mix(%d, %d, %d): %d", old, now, part, x)
		}
	})
	pairs(func(old, now int64) {
		from, to := stopped(wide(old)), stopped(wide(now))
		if Mix(old, now, 0) != from || Mix(old, now, one) != to {
			t.Errorf("Mix of %d and %d: %d at 0, %d at one", old, now, Mix(old, now, 0), Mix(old, now, one))
		}
	})
}

// P1.4: sums, and products by a number that is not below 0, keep the order.
func TestOrderIsKept(t *testing.T) {
	triples(func(a, b, c int64) {
		low, high := min(a, b), max(a, b)
		if Add(low, c) > Add(high, c) || Add(c, low) > Add(c, high) {
			t.Errorf("sums of %d and %d with %d", low, high, c)
		}
		if c >= 0 && (Mul(low, c) > Mul(high, c) || Mul(c, low) > Mul(c, high)) {
			t.Errorf("products of %d and %d by %d", low, high, c)
		}
	})
}
