package plan

import (
	"math/rand/v2"
	"reflect"
	"slices"
	"testing"

	"stopline/api"
)

// spared is a list with spare room behind it, filled so that a write there is seen.
func spared[T any](list []T, mark T) []T {
	long := append(slices.Clone(list), mark, mark, mark)
	return long[:len(list)]
}

func room[T any](list []T) []T { return slices.Clone(list[:cap(list)]) }

func roomyPlan(p api.Plan) api.Plan {
	p.Splits = spared(p.Splits, 7000)
	return p
}

func wholePlan(p api.Plan) api.Plan {
	p.Splits = room(p.Splits)
	return p
}

// roomy is a site whose lists have spare room.
func roomy(s api.Site) api.Site {
	s.Groups = spared(s.Groups, api.Group{Min: 7000, Yellow: 7000})
	s.Apart = spared(s.Apart, 77)
	rows := [][]int{}
	for _, row := range s.Between {
		rows = append(rows, spared(row, 7000))
	}
	s.Between = spared(rows, []int{7000})
	s.Phases = spared(s.Phases, api.Phase{Groups: 1, Min: 1, Max: 7000})
	s.Eyes = spared(s.Eyes, api.Eye{On: 7000})
	plans := []api.Plan{}
	for _, p := range s.Plans {
		plans = append(plans, roomyPlan(p))
	}
	s.Plans = spared(plans, planOf(7000, 0, 7000))
	return s
}

// whole is a site with its lists as long as their room, copied.
func whole(s api.Site) api.Site {
	s.Groups, s.Apart, s.Phases, s.Eyes = room(s.Groups), room(s.Apart), room(s.Phases), room(s.Eyes)
	rows := [][]int{}
	for _, row := range s.Between[:cap(s.Between)] {
		rows = append(rows, room(row))
	}
	s.Between = rows
	plans := []api.Plan{}
	for _, p := range s.Plans[:cap(s.Plans)] {
		plans = append(plans, wholePlan(p))
	}
	s.Plans = plans
	return s
}

// somePlans are such that may be and such that may not.
func somePlans(source *rand.Rand, s api.Site, may bool) []api.Plan {
	list := []api.Plan{{}, planOf(40, 3, 20, 20), planOf(-5, -5, -5, 1<<40), planOf(s.High, s.High, slices.Repeat([]int{s.High}, 9)...)}
	if may {
		list = append(list, anyPlan(source, s), anyPlan(source, s))
	}
	return append(list, s.Plans...)
}

// P17.3: what is handed in is as it was behind each call, its spare room too, with an error and without; what stands in that room counts for nothing; and the same call tells the same again.
func TestWhatIsHandedIn(t *testing.T) {
	source := rand.New(rand.NewPCG(17, 8))
	sites := append(badSites(), smallSites()...)
	for range 40 {
		sites = append(sites, anySite(source, false))
	}
	for i, given := range sites {
		s := roomy(given)
		wasSite := whole(s)
		for _, bare := range somePlans(source, given, i >= len(badSites())) {
			p := roomyPlan(bare)
			was := wholePlan(p)
			cycle := []place{}
			if slowError(s, p, 0) == api.OK {
				cycle = unrolled(s, p)
			}
			for range 2 {
				holdClamp(t, s, p)
				for _, tick := range []int{-1, 0, 1, 37, api.MaxCounter, api.MaxCounter + 1} {
					holdAt(t, s, p, cycle, tick)
				}
			}
			if !reflect.DeepEqual(wholePlan(p), was) || !reflect.DeepEqual(whole(s), wasSite) {
				t.Fatal("changed", p, s)
			}
		}
	}
}

// P17.3: what Clamp answers is new memory: what is written into it, and behind it, changes neither what was handed in nor what a later call answers; also of a plan that stays as it is, and of one that the site has.
func TestWhatClampAnswers(t *testing.T) {
	source := rand.New(rand.NewPCG(17, 9))
	sites := smallSites()
	for range 40 {
		sites = append(sites, anySite(source, false))
	}
	for _, given := range sites {
		s := roomy(given)
		wasSite := whole(s)
		for _, bare := range append(somePlans(source, given, true), s.Plans...) {
			for _, p := range []api.Plan{roomyPlan(bare), bare} {
				was := wholePlan(p)
				one, e := Clamp(s, p)
				other, f := Clamp(s, p)
				if e != api.OK || f != api.OK {
					t.Fatal(e, f)
				}
				one.Splits = one.Splits[:cap(one.Splits)]
				for i := range one.Splits {
					one.Splits[i] = -99
				}
				if want, _ := slowClamp(s, p); !samePlan(other, want) {
					t.Fatal("two answers share memory", other, want)
				}
				holdClamp(t, s, p)
				if !reflect.DeepEqual(wholePlan(p), was) || !reflect.DeepEqual(whole(s), wasSite) {
					t.Fatal("changed", p)
				}
			}
		}
	}
}
