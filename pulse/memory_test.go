package pulse

import (
	"slices"
	"testing"

	"stopline/api"
)

// spared is a list with spare room behind it, filled so that a write there is seen.
func spared(list []bool, mark bool) []bool {
	long := append(slices.Clone(list), mark, mark, mark)
	return long[:len(list)]
}

func full(list []bool) []bool { return slices.Clone(list[:cap(list)]) }

// P11.3, R2: what is handed in is as it was behind each call, its spare room too, with an error and without; and the same call tells the same again.
func TestWhatIsHandedIn(t *testing.T) {
	for _, list := range [][]bool{nil, bits("0"), bits("1"), bits("101110100"), make([]bool, api.MaxScript), make([]bool, api.MaxScript+1)} {
		for _, mark := range []bool{false, true} {
			raw := spared(list, mark)
			was := full(raw)
			for _, hold := range []int{-1, 0, 1, 2, top, top + 1} {
				for _, p := range pulses(-1, 0, 1, top, top+1) {
					last, said, e := Run(p, raw, hold)
					next, f := Next(p, mark, hold)
					if !slices.Equal(full(raw), was) {
						t.Fatal("changed", p, hold)
					}
					last2, said2, e2 := Run(p, raw, hold)
					next2, f2 := Next(p, mark, hold)
					if last != last2 || !slices.Equal(said, said2) || e != e2 || next != next2 || f != f2 {
						t.Fatal("told otherwise", p, hold)
					}
				}
			}
		}
	}
}

// scribble turns each element of a list, its spare room too.
func scribble(list []bool) {
	list = list[:cap(list)]
	for i, x := range list {
		list[i] = !x
	}
}

// P11.3: what is written into an answer is seen neither in what was handed in nor in another answer; and what is written into the argument behind the call is not seen in the answer.
func TestNewMemory(t *testing.T) {
	for _, text := range []string{"", "0", "1", "0000", "1111", "10110", "110011001100"} {
		for _, p := range pulses(0, 1, top) {
			for _, hold := range []int{1, 2, 3, top} {
				_, want, _ := slowRun(p, bits(text), hold)
				raw := spared(bits(text), true)
				was := full(raw)
				_, first, _ := Run(p, raw, hold)
				_, second, _ := Run(p, raw, hold)
				scribble(first)
				if !slices.Equal(full(raw), was) || !slices.Equal(second, want) {
					t.Fatal("shared with the answer", text, p, hold)
				}
				if _, third, _ := Run(p, raw, hold); !slices.Equal(third, want) {
					t.Fatal("kept", text, p, hold, told(third))
				}
				scribble(raw)
				if !slices.Equal(second, want) {
					t.Fatal("shared with the argument", text, p, hold)
				}
			}
		}
	}
}
