package gap

import (
	"math/rand/v2"
	"testing"

	"stopline/api"
	"stopline/fix"
)

// The numbers that the document gives.
func TestGivenNumbers(t *testing.T) {
	if top != 1048576 || most != 1073741824 || api.Unit != 65536 || api.ErrArg != 2 || api.ErrBad != 8 || api.OK != 0 {
		t.Error(top, most, api.Unit, int(api.ErrArg), int(api.ErrBad), int(api.OK))
	}
}

// after is gaps behind these ticks.
func after(t *testing.T, g api.Gapped, list []bool) api.Gapped {
	t.Helper()
	for _, up := range list {
		var e api.Errno
		if g, e = Next(g, up); e != api.OK {
			t.Fatal(g, up, e)
		}
	}
	return g
}

// Every row of the chapter's examples.
func TestExamples(t *testing.T) {
	g := after(t, api.Gapped{}, ticks("1101"))
	if g != (api.Gapped{Up: true, Held: 1, Came: 2, Last: 13}) {
		t.Error(g)
	}
	for window, want := range map[int]int64{4: 49152, 2: 32768, 64: 3072} {
		if x, e := Share(g, window); x != want || e != api.OK {
			t.Error(window, x, e)
		}
	}
	down := after(t, g, ticks("0"))
	for i, c := range []struct {
		g    api.Gapped
		gap  int
		want bool
	}{{g, 0, false}, {down, 1, true}, {down, 2, false}} {
		if is, e := Past(c.g, c.gap); is != c.want || e != api.OK {
			t.Error(i, is, e)
		}
	}
	if x, e := Share(g, 65); x != 0 || e != api.ErrArg {
		t.Error(x, e)
	}
	if h, e := Next(api.Gapped{Held: 1}, true); h != (api.Gapped{}) || e != api.ErrBad {
		t.Error(h, e)
	}
	if h, e := Next(api.Gapped{Held: 1}, false); h != (api.Gapped{}) || e != api.ErrBad {
		t.Error(h, e)
	}
}

// P12.1: what stands in gaps a tick later, written out.
func TestNextByHand(t *testing.T) {
	const no, yes = false, true
	for i, c := range []struct {
		g    api.Gapped
		up   bool
		want api.Gapped
	}{
		{api.Gapped{}, no, api.Gapped{Open: 1}},
		{api.Gapped{}, yes, api.Gapped{Up: yes, Held: 1, Came: 1, Last: 1}},
		{api.Gapped{Open: 7, Came: 3, Last: 4}, no, api.Gapped{Open: 8, Came: 3, Last: 8}},
		{api.Gapped{Open: 7, Came: 3, Last: 4}, yes, api.Gapped{Up: yes, Held: 1, Came: 4, Last: 9}},
		{api.Gapped{Up: yes, Held: 7, Came: 3, Last: 5}, no, api.Gapped{Open: 1, Came: 3, Last: 10}},
		{api.Gapped{Up: yes, Held: 7, Came: 3, Last: 5}, yes, api.Gapped{Up: yes, Held: 8, Came: 3, Last: 11}},
		// Up without a count of what came, and without a tick of standing, may be.
		{api.Gapped{Up: yes, Last: 1}, yes, api.Gapped{Up: yes, Held: 1, Last: 3}},
		{api.Gapped{Up: yes, Last: 1}, no, api.Gapped{Open: 1, Last: 2}},
		// The highest bit is forgotten.
		{api.Gapped{Last: highest}, no, api.Gapped{Open: 1}},
		{api.Gapped{Last: highest}, yes, api.Gapped{Up: yes, Held: 1, Came: 1, Last: 1}},
		{api.Gapped{Last: highest >> 1}, no, api.Gapped{Open: 1, Last: highest}},
		{api.Gapped{Up: yes, Last: allSet}, no, api.Gapped{Open: 1, Last: allSet - 1}},
		{api.Gapped{Up: yes, Last: allSet}, yes, api.Gapped{Up: yes, Held: 1, Last: allSet}},
		// At their bounds they stay, and the rest follows.
		{api.Gapped{Up: yes, Held: top - 1, Came: 5, Last: 1}, yes, api.Gapped{Up: yes, Held: top, Came: 5, Last: 3}},
		{api.Gapped{Up: yes, Held: top, Came: 5, Last: 3}, yes, api.Gapped{Up: yes, Held: top, Came: 5, Last: 7}},
		{api.Gapped{Up: yes, Held: top, Came: 5, Last: 3}, no, api.Gapped{Open: 1, Came: 5, Last: 6}},
		{api.Gapped{Open: top - 1, Came: 5, Last: 2}, no, api.Gapped{Open: top, Came: 5, Last: 4}},
		{api.Gapped{Open: top, Came: 5, Last: 4}, no, api.Gapped{Open: top, Came: 5, Last: 8}},
		{api.Gapped{Open: top, Came: 5, Last: 4}, yes, api.Gapped{Up: yes, Held: 1, Came: 6, Last: 9}},
		{api.Gapped{Open: 3, Came: most - 1, Last: 4}, yes, api.Gapped{Up: yes, Held: 1, Came: most, Last: 9}},
		{api.Gapped{Open: 3, Came: most, Last: 4}, yes, api.Gapped{Up: yes, Held: 1, Came: most, Last: 9}},
		{api.Gapped{Open: 3, Came: most, Last: 4}, no, api.Gapped{Open: 4, Came: most, Last: 8}},
		{api.Gapped{Up: yes, Held: 3, Came: most - 1, Last: 7}, yes, api.Gapped{Up: yes, Held: 4, Came: most - 1, Last: 15}},
		{api.Gapped{Up: yes, Held: top, Came: most, Last: allSet}, yes, api.Gapped{Up: yes, Held: top, Came: most, Last: allSet}},
		{api.Gapped{Open: top, Came: most}, no, api.Gapped{Open: top, Came: most}},
		{api.Gapped{Open: top, Came: most}, yes, api.Gapped{Up: yes, Held: 1, Came: most, Last: 1}},
	} {
		if g, e := Next(c.g, c.up); g != c.want || e != api.OK {
			t.Error(i, c, g, e)
		}
	}
}

// P12.1, P12.3: gaps of all kinds against the slow reading; what comes a tick later may be.
func TestNextAtTheEdges(t *testing.T) {
	many := 0
	for _, g := range edges() {
		for _, up := range []bool{false, true} {
			next, e := Next(g, up)
			if want, f := slowNext(g, up); next != want || e != f {
				t.Fatal(g, up, "told", next, e, "not", want, f)
			}
			if e != api.OK {
				continue
			}
			many++
			if _, e := Next(next, up); e != api.OK || !slowMayBe(next) {
				t.Fatal("a tick later", g, up, next, e)
			}
		}
	}
	if many < 1000 {
		t.Error("few that may be", many)
	}
}

// P12.1: Came is one more just where Up turns true, below its bound.
func TestWhatCame(t *testing.T) {
	for _, g := range well() {
		for _, up := range []bool{false, true} {
			more := 0
			if up && !g.Up && g.Came < most {
				more = 1
			}
			if next, e := Next(g, up); next.Came-g.Came != more || e != api.OK {
				t.Fatal(g, up, next, e)
			}
		}
	}
}

// P12.2: gaps of all kinds with windows and gaps at their edges, against the slow reading.
func TestShareAndPastAtTheEdges(t *testing.T) {
	for _, g := range append(well(), wrong()...) {
		for _, window := range windows() {
			x, e := Share(g, window)
			if want, f := slowShare(g, window); x != want || e != f {
				t.Fatal("Share", g, window, "told", x, e, "not", want, f)
			}
		}
		for _, gap := range gaps(g.Open) {
			is, e := Past(g, gap)
			if want, f := slowPast(g, gap); is != want || e != f {
				t.Fatal("Past", g, gap, "told", is, e, "not", want, f)
			}
		}
	}
	for _, g := range edges() {
		x, e := Share(g, 64)
		is, f := Past(g, 0)
		if slowMayBe(g) != (e == api.OK) || e != f || e != api.OK && (x != 0 || is || e != api.ErrBad) {
			t.Fatal(g, x, e, is, f)
		}
	}
}

// P12.1, P12.2: of gaps that may not be every call tells ErrBad, whatever stands beside them; of those that may be what is beyond its bounds is ErrArg; and nothing is told beside an error.
func TestWhichErrorIsTold(t *testing.T) {
	for _, g := range wrong() {
		for _, up := range []bool{false, true} {
			if next, e := Next(g, up); next != (api.Gapped{}) || e != api.ErrBad {
				t.Error("Next", g, up, next, e)
			}
		}
		for _, window := range windows() {
			if x, e := Share(g, window); x != 0 || e != api.ErrBad {
				t.Error("Share", g, window, x, e)
			}
		}
		for _, gap := range gaps(g.Open) {
			if is, e := Past(g, gap); is || e != api.ErrBad {
				t.Error("Past", g, gap, is, e)
			}
		}
	}
	for _, g := range []api.Gapped{{}, {Open: top, Last: allSet - 1}, {Up: true, Last: 1}, {Up: true, Held: top, Came: most, Last: allSet}} {
		for _, window := range badWindows() {
			if x, e := Share(g, window); x != 0 || e != api.ErrArg {
				t.Error("Share", g, window, x, e)
			}
		}
		for _, gap := range badGaps() {
			if is, e := Past(g, gap); is || e != api.ErrArg {
				t.Error("Past", g, gap, is, e)
			}
		}
	}
}

// P12.2: shares written out.
func TestShareByHand(t *testing.T) {
	for i, c := range []struct {
		last   uint64
		window int
		want   int64
	}{
		{0, 1, 0}, {0, 64, 0}, {1, 1, 65536}, {1, 2, 32768}, {1, 3, 21845}, {1, 63, 1040}, {1, 64, 1024},
		{2, 1, 0}, {2, 2, 32768}, {6, 3, 43690}, {7, 3, 65536}, {7, 7, 28086},
		{highest, 63, 0}, {highest, 64, 1024}, {highest | 1, 63, 1040}, {highest | 1, 64, 2048}, {highest >> 1, 63, 1040}, {highest >> 1, 62, 0},
		{allSet, 1, 65536}, {allSet, 2, 65536}, {allSet, 63, 65536}, {allSet, 64, 65536},
		{allSet - 1, 1, 0}, {allSet - 1, 2, 32768}, {allSet - 1, 63, 64495}, {allSet - 1, 64, 64512}, {allSet >> 1, 64, 64512},
	} {
		g := api.Gapped{Up: c.last&1 != 0, Last: c.last}
		if x, e := Share(g, c.window); x != c.want || e != api.OK {
			t.Error(i, c, x, e)
		}
	}
}

// holdShares holds the shares of all windows of a Last against counting bit by bit, and against fix's words.
func holdShares(t *testing.T, last uint64) {
	t.Helper()
	g := api.Gapped{Up: last&1 != 0, Last: last}
	many := 0
	for window := 1; window <= 64; window++ {
		if last>>(window-1)&1 != 0 {
			many++
		}
		want, _ := fix.Div(fix.Of(many), fix.Of(window))
		if x, e := Share(g, window); x != want || x != int64(many*65536/window) || x < 0 || x > 65536 || e != api.OK {
			t.Fatal(last, window, x, e, want)
		}
	}
}

// P12.2, P12.3: the shares of every window of many Lasts.
func TestSharesOfManyLasts(t *testing.T) {
	for _, last := range lasts() {
		holdShares(t, last)
	}
	for i := range 64 {
		holdShares(t, 1<<i)
		holdShares(t, allSet>>i)
		holdShares(t, allSet<<i)
		holdShares(t, allSet^1<<i)
		for j := range i {
			holdShares(t, 1<<i|1<<j)
		}
	}
	for last := range uint64(1 << 12) {
		holdShares(t, last)
		holdShares(t, last<<52)
	}
	source := rand.New(rand.NewPCG(12, 1))
	for range 5000 {
		x, y := source.Uint64(), source.Uint64()
		holdShares(t, x)
		holdShares(t, x&y)
		holdShares(t, x|y)
	}
}

// P12.2: where something stands there no gap is past; where nothing does just those from Open on down are.
func TestWhichGapsArePast(t *testing.T) {
	all := []int{0, 1, 2, 3, 63, 64, 65, 4096, top - 2, top - 1, top}
	for _, gap := range all {
		for _, held := range all {
			g := api.Gapped{Up: true, Held: held, Came: 1, Last: 1}
			if is, e := Past(g, gap); is || e != api.OK {
				t.Error(g, gap, is, e)
			}
		}
		for _, open := range all {
			g := api.Gapped{Open: open, Last: allSet - 1}
			if is, e := Past(g, gap); is != (gap <= open) || e != api.OK {
				t.Error(g, gap, is, e)
			}
		}
	}
	for open := range 200 {
		for gap := range 210 {
			if is, e := Past(api.Gapped{Open: open}, gap); is != (gap <= open) || e != api.OK {
				t.Error(open, gap, is, e)
			}
		}
	}
}

// R2: Share and Past hang on no more than is asked, and the same call tells the same again.
func TestToldAgain(t *testing.T) {
	for _, g := range well() {
		a, e := Next(g, true)
		x, f := Share(g, 7)
		is, h := Past(g, 3)
		b, e2 := Next(g, true)
		x2, f2 := Share(api.Gapped{Up: g.Up, Last: g.Last}, 7)
		is2, h2 := Past(api.Gapped{Up: g.Up, Open: g.Open, Last: g.Last & 1}, 3)
		if a != b || e != e2 || x != x2 || f != f2 || is != is2 || h != h2 {
			t.Fatal(g, a, b, x, x2, is, is2)
		}
	}
}
