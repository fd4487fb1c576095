package turn

import (
	"math/rand/v2"
	"reflect"
	"slices"
	"testing"

	"stopline/api"
)

// spared is a list with spare room behind it, filled so that a write there is seen.
func spared[T any](list []T, mark T) []T {
	long := append(slices.Clone(list), mark, mark, mark)
	return long[:len(list)]
}

func room[T any](list []T) []T { return slices.Clone(list[:cap(list)]) }

// roomy is a site whose lists have spare room.
func roomy(s api.Site) api.Site {
	s.Groups = spared(s.Groups, api.Group{Min: 7000, Yellow: 7000})
	s.Apart = spared(s.Apart, 77)
	rows := [][]int{}
	for _, row := range s.Between {
		rows = append(rows, spared(row, 7000))
	}
	s.Between = spared(rows, []int{7000})
	s.Phases = spared(s.Phases, api.Phase{Groups: 1, Min: 1})
	return s
}

// whole is a site with its lists as long as their room, copied.
func whole(s api.Site) api.Site {
	s.Groups, s.Apart, s.Phases = room(s.Groups), room(s.Apart), room(s.Phases)
	rows := [][]int{}
	for _, row := range s.Between[:cap(s.Between)] {
		rows = append(rows, room(row))
	}
	s.Between = rows
	return s
}

// P15.4: what is handed in is as it was behind each call, its spare room too, with an error and without; what stands in that room counts for nothing; and the same call tells the same again.
func TestWhatIsHandedIn(t *testing.T) {
	source := rand.New(rand.NewPCG(15, 4))
	sites := append(badSites(), smallSites()...)
	sites = append(sites, crowded(), together(), wide(4096))
	for range 60 {
		sites = append(sites, anySite(source))
	}
	for i, given := range sites {
		s := roomy(given)
		wasSite := whole(s)
		standings := []api.Safe{{}, stands("GGG", 1, 1), starting(stands("RRR", 1, 1), -1)}
		if i >= len(badSites()) {
			standings = append(standings, first(given), anyStanding(source, given), anyStanding(source, given))
		}
		for _, now := range standings {
			now.Groups = spared(now.Groups, api.Seen{Aspect: api.Green, Since: 7, Ended: 7})
			was, start, flashes := room(now.Groups), now.Start, now.Flashed
			for _, phase := range []int{-1, 0, len(s.Phases) - 1, len(s.Phases)} {
				for range 2 {
					holdAsks(t, s, phase)
					holdFull(t, s, now, phase)
					holdSteps(t, s, now, phase)
					holdWorst(t, s)
				}
			}
			if !slices.Equal(room(now.Groups), was) || now.Start != start || now.Flashed != flashes || !reflect.DeepEqual(whole(s), wasSite) {
				t.Fatal("changed", now)
			}
		}
	}
}

// P15.4: what Asks answers is new memory: what is written into it, and behind it, changes neither the site nor what a later call answers.
func TestWhatAsksAnswers(t *testing.T) {
	source := rand.New(rand.NewPCG(15, 2))
	for range 60 {
		s := roomy(anySite(source))
		was := whole(s)
		for phase := range s.Phases {
			want, _ := slowAsks(s, phase)
			one, e := Asks(s, phase)
			other, f := Asks(s, phase)
			if e != api.OK || f != api.OK {
				t.Fatal(e, f)
			}
			one = one[:cap(one)]
			for i := range one {
				one[i] = 99
			}
			if !slices.Equal(other, want) {
				t.Fatal("two answers share memory", other, want)
			}
			holdAsks(t, s, phase)
			if !reflect.DeepEqual(whole(s), was) {
				t.Fatal("changed")
			}
		}
	}
}
