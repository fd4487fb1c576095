package call

import (
	"math/rand/v2"
	"reflect"
	"slices"
	"testing"

	"stopline/api"
)

// spared is a list with spare room behind it, filled so that a write there is seen.
func spared[T any](list []T, mark T) []T {
	long := append(slices.Clone(list), mark, mark, mark)
	return long[:len(list)]
}

func full[T any](list []T) []T { return slices.Clone(list[:cap(list)]) }

// roomy is a site whose lists have spare room.
func roomy(s api.Site) api.Site {
	s.Groups = spared(s.Groups, api.Group{Min: -7})
	s.Apart = spared(s.Apart, 77)
	rows := [][]int{}
	for _, row := range s.Between {
		rows = append(rows, spared(row, -7))
	}
	s.Between = rows
	s.Phases = spared(s.Phases, api.Phase{Min: -7, Always: true})
	s.Eyes = spared(s.Eyes, api.Eye{On: -7})
	return s
}

// whole is a site with its lists as long as their room, copied.
func whole(s api.Site) api.Site {
	s.Groups, s.Apart, s.Phases, s.Eyes = full(s.Groups), full(s.Apart), full(s.Phases), full(s.Eyes)
	rows := [][]int{}
	for _, row := range s.Between {
		rows = append(rows, full(row))
	}
	s.Between = rows
	return s
}

// R2: what is handed in is as it was behind each call, its spare room too, with an error and without; what stands in that room counts for nothing; and the same call tells the same again.
func TestWhatIsHandedIn(t *testing.T) {
	source := rand.New(rand.NewPCG(14, 4))
	sites := append(badSites(), example(), wide(1, 0), wide(8, 255))
	for range 100 {
		sites = append(sites, anySite(source))
	}
	for _, given := range sites {
		s := roomy(given)
		wasSite := whole(s)
		for _, extra := range []int{-1, 0, 0, 1} {
			l := anyLooks(source, max(0, len(s.Eyes)+extra))
			if source.IntN(3) == 0 && len(l) > 0 {
				l[source.IntN(len(l))].Same = -1
			}
			l = spared(l, api.Looked{Up: true, Same: -9})
			was := full(l)
			c, phase := source.Uint32()%(2<<min(len(given.Phases), 8)), source.IntN(len(given.Phases)+3)-2
			for range 2 {
				real, e := slowReal(given, l)
				wantReal(t, s, l, real, e)
				next, e := slowNext(given, c, l, phase)
				wantNext(t, s, c, l, phase, next, e)
				first, e := slowFirst(given, c, phase)
				wantFirst(t, s, c, phase, first, e)
			}
			if !slices.Equal(full(l), was) || !reflect.DeepEqual(whole(s), wasSite) {
				t.Fatal("changed", s.Eyes, l)
			}
		}
	}
}
