package eye

import (
	"math/rand/v2"
	"reflect"
	"slices"
	"testing"

	"stopline/api"
)

// spared is a list with spare room behind it, filled so that a write there is seen.
func spared[T any](list []T, mark T) []T {
	long := append(slices.Clone(list), mark, mark, mark)
	return long[:len(list)]
}

func full[T any](list []T) []T { return slices.Clone(list[:cap(list)]) }

// roomy is a site whose lists have spare room.
func roomy(s api.Site) api.Site {
	s.Groups = spared(s.Groups, api.Group{Min: -7})
	s.Apart = spared(s.Apart, 77)
	rows := [][]int{}
	for _, row := range s.Between {
		rows = append(rows, spared(row, -7))
	}
	s.Between = rows
	s.Phases = spared(s.Phases, api.Phase{Min: -7})
	s.Eyes = spared(s.Eyes, api.Eye{On: -7})
	return s
}

// whole is a site with its lists as long as their room, copied.
func whole(s api.Site) api.Site {
	s.Groups, s.Apart, s.Phases, s.Eyes = full(s.Groups), full(s.Apart), full(s.Phases), full(s.Eyes)
	rows := [][]int{}
	for _, row := range s.Between {
		rows = append(rows, full(row))
	}
	s.Between = rows
	return s
}

// P13.3, R2: what is handed in is as it was behind each call, its spare room too, with an error and without; and the same call tells the same again.
func TestWhatIsHandedIn(t *testing.T) {
	source := rand.New(rand.NewPCG(13, 7))
	sites := []api.Site{crossing(4), wide(8, 2, anyEyes(source, 24, 8)...), crossing(0, api.Eye{On: 1, Off: 1, Turns: 1})}
	for range 30 {
		sites = append(sites, wide(4, 2, anyEyes(source, 1+source.IntN(9), 4)...))
	}
	for _, given := range sites {
		s := roomy(given)
		wasSite := whole(s)
		for _, extra := range []int{-1, 0, 0, 1} {
			l := anyLooks(source, max(0, len(s.Eyes)+extra))
			if source.IntN(3) == 0 && len(l) > 0 {
				l[source.IntN(len(l))].Same = -1
			}
			l = spared(l, api.Looked{Same: -9, Well: 9})
			was := full(l)
			ups := source.Uint32()
			next, e := All(s, l, ups)
			is, f := Well(s, l)
			one, g := Next(s, 0, api.Looked{Up: true, Same: 2}, false)
			if !slices.Equal(full(l), was) || !reflect.DeepEqual(whole(s), wasSite) {
				t.Fatal("changed", s.Eyes, l)
			}
			next2, e2 := All(s, l, ups)
			is2, f2 := Well(s, l)
			one2, g2 := Next(s, 0, api.Looked{Up: true, Same: 2}, false)
			if !slices.Equal(next, next2) || e != e2 || is != is2 || f != f2 || one != one2 || g != g2 {
				t.Fatal("told otherwise", s.Eyes, l)
			}
		}
	}
}

// scribble writes over a list, its spare room too.
func scribble(list []api.Looked) {
	list = list[:cap(list)]
	for i := range list {
		list[i] = api.Looked{Up: true, Same: -5, Turns: 99, Bad: true, Well: -5}
	}
}

// P13.3: what is written into an answer is seen neither in what was handed in nor in another answer; and what is written into the argument behind the call is not seen in the answer.
func TestNewMemory(t *testing.T) {
	source := rand.New(rand.NewPCG(13, 8))
	for many := range api.MaxEyes + 1 {
		s := wide(8, 2, anyEyes(source, many, 8)...)
		l := spared(anyLooks(source, many), api.Looked{Same: 3})
		was := full(l)
		ups := source.Uint32()
		var want []api.Looked
		for i, x := range l {
			want = append(want, slowLater(s, i, x, ups/(1<<i)%2 == 1))
		}
		first, _ := All(s, l, ups)
		second, _ := All(s, l, ups)
		scribble(first)
		if !slices.Equal(full(l), was) || !slices.Equal(second, want) {
			t.Fatal("shared with the answer", many)
		}
		if third, _ := All(s, l, ups); !slices.Equal(third, want) {
			t.Fatal("kept", many)
		}
		scribble(l)
		if !slices.Equal(second, want) {
			t.Fatal("shared with the argument", many)
		}
	}
}
