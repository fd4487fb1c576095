package well

import (
	"math"
	"testing"

	"stopline/api"
	"stopline/fix"
)

// The numbers that the document gives.
func TestGivenNumbers(t *testing.T) {
	if api.Unit != 65536 || api.ErrArg != 2 || api.OK != 0 {
		t.Error(api.Unit, int(api.ErrArg), int(api.OK))
	}
}

// Every row of the chapter's examples.
func TestExamples(t *testing.T) {
	w := api.Well{}
	for i, c := range []struct {
		got  bool
		want uint64
	}{{true, 1}, {false, 2}, {true, 5}} {
		if w = Next(w, c.got); w.Bits != c.want {
			t.Error(i, w)
		}
	}
	for window, want := range map[int]int64{2: 32768, 4: 32768, 64: 2048} {
		if x, e := Share(w, window); x != want || e != api.OK {
			t.Error(window, x, e)
		}
	}
	for bound, want := range map[int64]bool{32768: false, 32769: true} {
		if is, e := Poor(w, 4, bound); is != want || e != api.OK {
			t.Error(bound, is, e)
		}
	}
	if x, e := Share(w, 0); x != 0 || e != api.ErrArg {
		t.Error(x, e)
	}
	if is, e := Poor(w, 4, -1); is || e != api.ErrArg {
		t.Error(is, e)
	}
}

// P21.1: the last ticks, one later, written out.
func TestNextByHand(t *testing.T) {
	for i, c := range []struct{ bits, without uint64 }{
		{0, 0}, {1, 2}, {2, 4}, {3, 6}, {13, 26},
		{highest, 0}, {highest | 1, 2}, {highest >> 1, highest}, {highest + highest>>1, highest},
		{allSet, allSet - 1}, {allSet - 1, allSet - 3}, {allSet >> 1, allSet - 1},
		{0x5555555555555555, 0xaaaaaaaaaaaaaaaa}, {0xaaaaaaaaaaaaaaaa, 0x5555555555555554},
	} {
		w := api.Well{Bits: c.bits}
		if x := Next(w, false); x.Bits != c.without {
			t.Error(i, c, x)
		}
		if x := Next(w, true); x.Bits != c.without+1 {
			t.Error(i, c, x)
		}
	}
}

// P21.1: last ticks of all kinds against the slow reading; what is handed in stays.
func TestNextOfManyLasts(t *testing.T) {
	for _, w := range lasts() {
		for _, got := range []bool{false, true} {
			was := w
			if x := Next(w, got); x != slowNext(w, got) || x != Next(w, got) || w != was {
				t.Fatal(w, got, x)
			}
		}
	}
}

// P21.2: shares written out.
func TestShareByHand(t *testing.T) {
	for i, c := range []struct {
		bits   uint64
		window int
		want   int64
	}{
		{0, 1, 0}, {0, 2, 0}, {0, 63, 0}, {0, 64, 0},
		{1, 1, 65536}, {1, 2, 32768}, {1, 3, 21845}, {1, 63, 1040}, {1, 64, 1024},
		{2, 1, 0}, {2, 2, 32768}, {6, 3, 43690}, {7, 3, 65536}, {7, 7, 28086},
		{highest, 1, 0}, {highest, 2, 0}, {highest, 63, 0}, {highest, 64, 1024}, {highest | 1, 63, 1040}, {highest | 1, 64, 2048},
		{highest >> 1, 62, 0}, {highest >> 1, 63, 1040}, {highest >> 1, 64, 1024},
		{allSet, 1, 65536}, {allSet, 2, 65536}, {allSet, 63, 65536}, {allSet, 64, 65536},
		{allSet - 1, 1, 0}, {allSet - 1, 2, 32768}, {allSet - 1, 63, 64495}, {allSet - 1, 64, 64512},
		{0x5555555555555555, 1, 65536}, {0x5555555555555555, 2, 32768}, {0x5555555555555555, 63, 33288}, {0x5555555555555555, 64, 32768},
		{0xaaaaaaaaaaaaaaaa, 1, 0}, {0xaaaaaaaaaaaaaaaa, 2, 32768}, {0xaaaaaaaaaaaaaaaa, 63, 32247}, {0xaaaaaaaaaaaaaaaa, 64, 32768},
	} {
		if x, e := Share(api.Well{Bits: c.bits}, c.window); x != c.want || e != api.OK {
			t.Error(i, c, x, e)
		}
	}
}

// P21.2: poor or not, written out, at the bounds' edges and beside the shares.
func TestPoorByHand(t *testing.T) {
	for i, c := range []struct {
		bits   uint64
		window int
		bound  int64
		want   bool
	}{
		{0, 1, 0, false}, {0, 64, 0, false}, {0, 1, 1, true}, {0, 64, 1, true}, {0, 1, 65536, true}, {0, 64, 65536, true},
		{1, 1, 0, false}, {1, 1, 65535, false}, {1, 1, 65536, false}, {2, 1, 1, true},
		{1, 3, 21844, false}, {1, 3, 21845, false}, {1, 3, 21846, true},
		{1, 63, 1039, false}, {1, 63, 1040, false}, {1, 63, 1041, true},
		{1, 64, 1023, false}, {1, 64, 1024, false}, {1, 64, 1025, true},
		{highest, 63, 1, true}, {highest, 64, 1024, false}, {highest, 64, 1025, true},
		{allSet, 64, 65535, false}, {allSet, 64, 65536, false}, {allSet - 1, 64, 64512, false}, {allSet - 1, 64, 64513, true}, {allSet - 1, 64, 65536, true},
		{0x5555555555555555, 64, 32768, false}, {0x5555555555555555, 64, 32769, true}, {0xaaaaaaaaaaaaaaaa, 63, 32247, false}, {0xaaaaaaaaaaaaaaaa, 63, 32248, true},
	} {
		if is, e := Poor(api.Well{Bits: c.bits}, c.window, c.bound); is != c.want || e != api.OK {
			t.Error(i, c, is, e)
		}
	}
}

// P21.2, P21.3: last ticks of all kinds with every window and many bounds, against the slow reading and fix's words.
func TestShareAndPoorOfManyLasts(t *testing.T) {
	for _, w := range lasts() {
		for _, window := range windows() {
			want, f := slowShare(w, window)
			if x, e := Share(w, window); x != want || e != f {
				t.Fatal("Share", w, window, "told", x, e, "not", want, f)
			}
			for _, bound := range bounds(want) {
				poor, f := slowPoor(w, window, bound)
				if is, e := Poor(w, window, bound); is != poor || e != f {
					t.Fatal("Poor", w, window, bound, "told", is, e, "not", poor, f)
				}
			}
		}
		for window := 1; window <= 64; window++ {
			want, _ := fix.Div(fix.Of(gotIn(newest(w)[:window])), fix.Of(window))
			if x, e := Share(w, window); x != want || x < 0 || x > api.Unit || e != api.OK {
				t.Fatal(w, window, x, e)
			}
		}
	}
}

// P21.2: a window or a bound beyond its bounds is ErrArg, either and both, whatever the last ticks are; and nothing is told beside it.
func TestWhatIsBeyondItsBounds(t *testing.T) {
	all := []api.Well{{}, {Bits: 1}, {Bits: highest}, {Bits: allSet}, {Bits: 0x5555555555555555}, {Bits: 0xaaaaaaaaaaaaaaaa}}
	for _, w := range all {
		for _, window := range badWindows() {
			if x, e := Share(w, window); x != 0 || e != api.ErrArg {
				t.Error("Share", w, window, x, e)
			}
			for _, bound := range bounds(0) {
				if is, e := Poor(w, window, bound); is || e != api.ErrArg {
					t.Error("Poor", w, window, bound, is, e)
				}
			}
		}
		for _, window := range []int{1, 2, 63, 64} {
			for _, bound := range badBounds() {
				if is, e := Poor(w, window, bound); is || e != api.ErrArg {
					t.Error("Poor", w, window, bound, is, e)
				}
			}
			if _, e := Poor(w, window, 0); e != api.OK {
				t.Error(w, window, e)
			}
			if _, e := Poor(w, window, api.Unit); e != api.OK {
				t.Error(w, window, e)
			}
		}
	}
	if is, e := Poor(api.Well{}, math.MinInt, math.MinInt64); is || e != api.ErrArg {
		t.Error(is, e)
	}
}
