package ladder

import (
	"math/rand/v2"
	"reflect"
	"slices"
	"testing"

	"stopline/api"
)

// spared is a list with spare room behind it, filled so that a write there is seen.
func spared[T any](list []T, mark T) []T {
	long := append(slices.Clone(list), mark, mark, mark)
	return long[:len(list)]
}

func room[T any](list []T) []T { return slices.Clone(list[:cap(list)]) }

// roomy is a site whose lists have spare room.
func roomy(s api.Site) api.Site {
	s.Groups = spared(s.Groups, api.Group{Min: 7000})
	s.Apart = spared(s.Apart, 77)
	rows := [][]int{}
	for _, row := range s.Between {
		rows = append(rows, spared(row, 7000))
	}
	s.Between = spared(rows, []int{7000})
	s.Phases = spared(s.Phases, api.Phase{Groups: 1, Min: 1, Max: 7000})
	s.Eyes = spared(s.Eyes, api.Eye{On: 7000})
	plans := []api.Plan{}
	for _, p := range s.Plans {
		p.Splits = spared(p.Splits, 7000)
		plans = append(plans, p)
	}
	s.Plans = spared(plans, api.Plan{Cycle: 7000, Splits: []int{7000}})
	return s
}

// whole is a site with its lists as long as their room, copied.
func whole(s api.Site) api.Site {
	s.Groups, s.Apart, s.Phases, s.Eyes = room(s.Groups), room(s.Apart), room(s.Phases), room(s.Eyes)
	rows := [][]int{}
	for _, row := range s.Between[:cap(s.Between)] {
		rows = append(rows, room(row))
	}
	s.Between = rows
	plans := []api.Plan{}
	for _, p := range s.Plans[:cap(s.Plans)] {
		p.Splits = room(p.Splits)
		plans = append(plans, p)
	}
	s.Plans = plans
	return s
}

// P22.3, R2: what is handed in is as it was behind each call, its spare room too, with an error and without; what stands in that room counts for nothing; and the same call tells the same again.
func TestWhatIsHandedIn(t *testing.T) {
	source := rand.New(rand.NewPCG(22, 5))
	scripts := [][]api.Facts{{}, scriptOf("fpel"), scriptOf("pl", "fpel", ""), spells(source, 300, 9, 0), spells(source, 300, 9, 30), make([]api.Facts, api.MaxScript), make([]api.Facts, api.MaxScript+1)}
	for _, given := range slices.Concat(goodSites(1), goodSites(4), badSites()) {
		s := roomy(given)
		wasSite := whole(s)
		for _, bare := range scripts {
			l := spared(bare, factsOf("fpel"))
			was := room(l)
			for _, r := range []api.Rung{{}, {Mode: 2, Well: 3}, {Latched: true}, {Mode: 4}, {Well: -1}} {
				for range 2 {
					holdRun(t, s, r, l)
					holdNext(t, s, r, factsOf("fpel"))
				}
			}
			if !slices.Equal(room(l), was) || !reflect.DeepEqual(whole(s), wasSite) {
				t.Fatal("changed", l, s)
			}
		}
	}
}

// scribble writes over a list and the room behind it.
func scribble[T any](list []T, mark T) {
	list = list[:cap(list)]
	for i := range list {
		list[i] = mark
	}
}

// P22.3: what Run answers is new memory: what is written into it, and behind it, changes neither what was handed in nor another answer; and what is written over what was handed in changes no answer.
func TestWhatIsAnswered(t *testing.T) {
	source := rand.New(rand.NewPCG(22, 6))
	for many := range 60 {
		s, r := roomy(planned(1+many%5)), api.Rung{Mode: uint8(many % 4), Well: many % 3}
		l := spared(spells(source, many, 9, 20), factsOf("fpel"))
		was, wasSite := room(l), whole(s)
		want, _ := slowRun(s, r, l)
		first, e := Run(s, r, l)
		second, f := Run(s, r, l)
		if e != api.OK || f != api.OK || !slices.Equal(first, want) {
			t.Fatal(many, first, e, f)
		}
		scribble(first, api.Rung{Mode: 99, Well: -99})
		if !slices.Equal(second, want) || !slices.Equal(room(l), was) || !reflect.DeepEqual(whole(s), wasSite) {
			t.Fatal("shared with another answer, or with what was handed in", many)
		}
		if third, _ := Run(s, r, l); !slices.Equal(third, want) {
			t.Fatal("kept", many)
		}
		scribble(l, api.Facts{Fresh: true})
		scribble(s.Phases, api.Phase{})
		scribble(s.Apart, 0)
		if !slices.Equal(second, want) {
			t.Fatal("shared with what was handed in", many)
		}
	}
}
