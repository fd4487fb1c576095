package seq

import (
	"math"
	"math/rand/v2"
	"reflect"
	"slices"
	"testing"

	"stopline/api"
)

// spared is a list with spare room behind it, filled so that a write there is seen.
func spared[T any](list []T, mark T) []T {
	long := append(slices.Clone(list), mark, mark, mark)
	return long[:len(list)]
}

func room[T any](list []T) []T { return slices.Clone(list[:cap(list)]) }

// roomy is a site whose lists have spare room.
func roomy(s api.Site) api.Site {
	s.Groups = spared(s.Groups, api.Group{Min: 7000, Yellow: 7000})
	s.Apart = spared(s.Apart, 77)
	rows := [][]int{}
	for _, row := range s.Between {
		rows = append(rows, spared(row, 7000))
	}
	s.Between = spared(rows, []int{7000})
	s.Phases = spared(s.Phases, api.Phase{Groups: 1, Min: 1, Max: 7000, Always: true})
	return s
}

// whole is a site with its lists as long as their room, copied.
func whole(s api.Site) api.Site {
	s.Groups, s.Apart, s.Phases = room(s.Groups), room(s.Apart), room(s.Phases)
	rows := [][]int{}
	for _, row := range s.Between[:cap(s.Between)] {
		rows = append(rows, room(row))
	}
	s.Between = rows
	return s
}

// P16.3: what is handed in is as it was behind each call, its spare room too, with an error and without; what stands in that room counts for nothing; and the same call tells the same again.
func TestWhatIsHandedIn(t *testing.T) {
	source := rand.New(rand.NewPCG(16, 3))
	sites := append(badSites(), goodSites()...)
	for range 60 {
		sites = append(sites, anySite(source, true))
	}
	for i, given := range sites {
		s := roomy(given)
		wasSite := whole(s)
		standings := []api.Safe{{}, stands("GGG"), stands("RRRR")}
		if i >= len(badSites()) {
			standings = append(standings, first(given), anyStanding(source, given), filled(given, 0), filled(given, len(given.Phases)-1))
		}
		for _, now := range standings {
			now.Groups = spared(now.Groups, api.Seen{Aspect: api.Green, Since: 7, Ended: 7})
			was, start, flashes := room(now.Groups), now.Start, now.Flashed
			for _, q := range []api.Seq{{Phase: -1}, {}, {Since: top}, {Since: -1}, {Phase: len(s.Phases) - 1, Since: 100}, {Phase: len(s.Phases)}} {
				for range 2 {
					holdNext(t, s, q, now, math.MaxUint32, 0)
					holdNext(t, s, q, now, 0, math.MaxUint32)
					holdBound(t, s)
				}
			}
			if !slices.Equal(room(now.Groups), was) || now.Start != start || now.Flashed != flashes || !reflect.DeepEqual(whole(s), wasSite) {
				t.Fatal("changed", now)
			}
		}
	}
}

// P16.3: what Next answers is new memory: what is written into it, and behind it, changes neither what was handed in nor what a later call answers.
func TestWhatNextAnswers(t *testing.T) {
	source := rand.New(rand.NewPCG(16, 2))
	for range 60 {
		s := roomy(anySite(source, true))
		was := whole(s)
		for phase := range s.Phases {
			now, q := filled(s, phase), api.Seq{Phase: phase, Since: top}
			wasNow := slices.Clone(now.Groups)
			_, one, e := Next(s, q, now, math.MaxUint32, 0)
			_, other, f := Next(s, q, now, math.MaxUint32, 0)
			if e != api.OK || f != api.OK {
				t.Fatal(e, f)
			}
			one = one[:cap(one)]
			for i := range one {
				one[i] = 99
			}
			if _, want, _ := slowNext(s, q, now, math.MaxUint32, 0); !slices.Equal(other, want) {
				t.Fatal("two answers share memory", other, want)
			}
			holdNext(t, s, q, now, math.MaxUint32, 0)
			if !reflect.DeepEqual(whole(s), was) || !slices.Equal(now.Groups, wasNow) {
				t.Fatal("changed")
			}
		}
	}
}
