package plan

import (
	"math"
	"math/big"
	"math/rand/v2"
	"slices"
	"testing"

	"stopline/api"
	"stopline/site"
)

const top = api.MaxTicks

// What the chapter says, word by word, and by other means than the package.

// membersOf are the numbers of a set.
func membersOf(set uint32) []int {
	list := []int{}
	for i, left := 0, set; left > 0; i, left = i+1, left/2 {
		if left%2 == 1 {
			list = append(list, i)
		}
	}
	return list
}

func slowNext(s api.Site, phase int) int {
	if phase == len(s.Phases)-1 {
		return 0
	}
	return phase + 1
}

func slowApart(s api.Site, a, b int) bool { return s.Apart[a]/(1<<uint(b))%2 == 1 }

// slowClear is what lies from a phase to the next one.
func slowClear(s api.Site, phase int) int {
	found := []int{0}
	for _, a := range membersOf(s.Phases[phase].Groups) {
		for _, b := range membersOf(s.Phases[slowNext(s, phase)].Groups) {
			if slowApart(s, a, b) {
				found = append(found, s.Between[a][b])
			}
		}
	}
	return slices.Max(found)
}

func slowLeast(s api.Site, phase int) int { return s.Phases[phase].Min + slowClear(s, phase) }

func slowRound(s api.Site) int {
	sum := 0
	for i := range s.Phases {
		sum += slowLeast(s, i)
	}
	return sum
}

// slowLongest is the longest between or yellow of a site.
func slowLongest(s api.Site) int {
	longest := 0
	for i, g := range s.Groups {
		longest = max(longest, g.Yellow, slices.Max(s.Between[i]))
	}
	return longest
}

func number(n int) *big.Int { return big.NewInt(int64(n)) }

func sumOf(list []int) *big.Int {
	sum := new(big.Int)
	for _, n := range list {
		sum.Add(sum, number(n))
	}
	return sum
}

// slowMod is the rest of a division that is never below 0.
func slowMod(n *big.Int, by int) int { return int(new(big.Int).Mod(n, number(by)).Int64()) }

// slowWish is by how much a split that is given is above the least part.
func slowWish(s api.Site, p api.Plan, phase int) int {
	given := 0
	if phase < len(p.Splits) {
		given = p.Splits[phase]
	}
	if given > s.High {
		given = s.High
	}
	wish := new(big.Int).Sub(number(given), number(slowLeast(s, phase)))
	if wish.Sign() < 0 {
		return 0
	}
	return int(wish.Int64())
}

func slowCycle(s api.Site, cycle int) int {
	if cycle < s.Low {
		return s.Low
	}
	if cycle > s.High {
		return s.High
	}
	return cycle
}

func slowClamp(s api.Site, p api.Plan) (api.Plan, api.Errno) {
	if site.Check(s) != api.OK {
		return api.Plan{}, api.ErrSite
	}
	cycle := slowCycle(s, p.Cycle)
	rest := cycle - slowRound(s)
	wishes, splits := []int{}, []int{}
	for i := range s.Phases {
		wishes = append(wishes, slowWish(s, p, i))
		splits = append(splits, slowLeast(s, i))
	}
	all := sumOf(wishes)
	if all.Sign() == 0 {
		splits[0] += rest
	} else {
		for i, wish := range wishes {
			share := new(big.Int).Mul(number(rest), number(wish))
			splits[i] += int(share.Div(share, all).Int64())
		}
		first := 0
		for wishes[first] == 0 {
			first++
		}
		splits[first] += cycle - int(sumOf(splits).Int64())
	}
	return api.Plan{Cycle: cycle, Offset: slowMod(number(p.Offset), cycle), Splits: splits}, api.OK
}

// slowFits tells whether a plan may be one of a site that may be.
func slowFits(s api.Site, p api.Plan) bool {
	if p.Cycle < s.Low || p.Cycle > s.High || p.Offset < 0 || p.Offset >= p.Cycle || len(p.Splits) != len(s.Phases) {
		return false
	}
	for i, split := range p.Splits {
		if split < slowLeast(s, i) {
			return false
		}
	}
	return sumOf(p.Splits).Cmp(number(p.Cycle)) == 0
}

func slowError(s api.Site, p api.Plan, tick int) api.Errno {
	switch {
	case site.Check(s) != api.OK:
		return api.ErrSite
	case !slowFits(s, p):
		return api.ErrPlan
	case tick < 0 || tick > 1073741824:
		return api.ErrArg
	}
	return api.OK
}

// place is one tick of a cycle: whose it is, how far, and what is wanted.
type place struct{ phase, into, wants int }

// unrolled are all ticks of a cycle, one behind the other.
func unrolled(s api.Site, p api.Plan) []place {
	list := make([]place, 0, p.Cycle)
	for phase, split := range p.Splits {
		for into := range split {
			list = append(list, place{phase, into, phase})
		}
		for i := range slowClear(s, phase) {
			list[len(list)-1-i].wants = slowNext(s, phase)
		}
	}
	return list
}

// placeAt is the place of a tick among those of a cycle.
func placeAt(p api.Plan, cycle []place, tick int) place {
	return cycle[slowMod(new(big.Int).Sub(number(tick), number(p.Offset)), p.Cycle)]
}

func samePlan(a, b api.Plan) bool {
	return a.Cycle == b.Cycle && a.Offset == b.Offset && slices.Equal(a.Splits, b.Splits)
}

// holdClamp holds Clamp against the slow reading, and against P17.4; it answers what was told.
func holdClamp(t *testing.T, s api.Site, p api.Plan) api.Plan {
	t.Helper()
	got, e := Clamp(s, p)
	if want, f := slowClamp(s, p); !samePlan(got, want) || e != f {
		t.Fatalf("Clamp of %+v: %+v, %d; not %+v, %d", p, got, e, want, f)
	}
	if e != api.OK {
		return got
	}
	if fits, f := site.Plan(s, got); !fits || f != api.OK || !slowFits(s, got) {
		t.Fatalf("Clamp of %+v: %+v, which may not be", p, got)
	}
	if again, f := Clamp(s, got); !samePlan(again, got) || f != api.OK {
		t.Fatalf("Clamp of %+v: %+v, and of that: %+v, %d", p, got, again, f)
	}
	return got
}

// holdAt holds At and Wants at a tick against the ticks of the cycle.
func holdAt(t *testing.T, s api.Site, p api.Plan, cycle []place, tick int) place {
	t.Helper()
	phase, into, e := At(s, p, tick)
	wants, f := Wants(s, p, tick)
	got, want := place{phase, into, wants}, place{}
	wrong := slowError(s, p, tick)
	if wrong == api.OK {
		want = placeAt(p, cycle, tick)
	}
	if got != want || e != wrong || f != wrong {
		t.Fatalf("%+v at %d: %+v, %d, %d; not %+v, %d", p, tick, got, e, f, want, wrong)
	}
	return got
}

// holdError holds that At and Wants tell an error, and nothing beside it.
func holdError(t *testing.T, s api.Site, p api.Plan, tick int, want api.Errno) {
	t.Helper()
	phase, into, e := At(s, p, tick)
	if phase != 0 || into != 0 || e != want {
		t.Fatalf("At of %+v at %d: %d, %d, %d; not %d", p, tick, phase, into, e, want)
	}
	if wants, e := Wants(s, p, tick); wants != 0 || e != want {
		t.Fatalf("Wants of %+v at %d: %d, %d; not %d", p, tick, wants, e, want)
	}
}

func cyclesAround(s api.Site) []int {
	return []int{math.MinInt, math.MinInt + 1, -1 << 32, -s.Low, -1, 0, 1, s.Low - 1, s.Low, s.Low + 1, (s.Low + s.High) / 2, s.High - 1, s.High, s.High + 1, top, top + 1, 1 << 32, math.MaxInt - 1, math.MaxInt}
}

func offsetsAround(cycle int) []int {
	return []int{math.MinInt, math.MinInt + 1, -1 << 32, -2*cycle - 1, -2 * cycle, -cycle - 1, -cycle, -cycle + 1, -1, 0, 1, cycle - 1, cycle, cycle + 1, 2*cycle - 1, 2 * cycle, 1 << 32, math.MaxInt - 1, math.MaxInt}
}

func splitsAround(s api.Site, phase int) []int {
	least := slowLeast(s, phase)
	return []int{math.MinInt, math.MinInt + 1, -1 << 32, -1, 0, 1, least - 1, least, least + 1, 2 * least, s.Low, s.High - 1, s.High, s.High + 1, 2 * s.High, top, top + 1, 1 << 32, 1 << 62, math.MaxInt - 1, math.MaxInt}
}

// badTicks are ticks that may not be.
func badTicks() []int {
	return []int{math.MinInt, math.MinInt + 1, -1 << 32, -2, -1, api.MaxCounter + 1, api.MaxCounter + 2, 1 << 32, 1<<32 + 5, math.MaxInt - 1, math.MaxInt}
}

// ticksAround are ticks at the edges of a plan that may be, in its first two cycles and in the last one that may be told.
func ticksAround(p api.Plan) []int {
	list := []int{0, 1, p.Offset - 1, p.Offset, p.Offset + 1, p.Cycle - 1, p.Cycle, api.MaxCounter - 1, api.MaxCounter}
	last := (api.MaxCounter-p.Offset)/p.Cycle*p.Cycle + p.Offset - p.Cycle
	for _, begins := range []int{p.Offset, p.Offset - p.Cycle, p.Offset + p.Cycle, last} {
		for _, split := range p.Splits {
			list = append(list, begins, begins+1, begins+split/2, begins+split-1)
			begins += split
		}
	}
	return slices.DeleteFunc(list, func(tick int) bool { return tick < 0 || tick > api.MaxCounter })
}

// everyParted goes through all ways to part a cycle of a site.
func everyParted(s api.Site, cycle int, tell func(splits []int)) {
	splits := make([]int, len(s.Phases))
	var from func(phase, left int)
	from = func(phase, left int) {
		if phase == len(splits)-1 {
			splits[phase] = left
			tell(splits)
			return
		}
		behind := 0
		for i := phase + 1; i < len(splits); i++ {
			behind += slowLeast(s, i)
		}
		for n := slowLeast(s, phase); n <= left-behind; n++ {
			splits[phase] = n
			from(phase+1, left-n)
		}
	}
	from(0, cycle)
}

// anyPlan is a plan that may be one of a site.
func anyPlan(source *rand.Rand, s api.Site) api.Plan {
	p := api.Plan{Cycle: s.Low + source.IntN(s.High-s.Low+1)}
	p.Offset = source.IntN(p.Cycle)
	left := p.Cycle - slowRound(s)
	for i := range s.Phases {
		more := source.IntN(left + 1)
		if source.IntN(3) == 0 {
			more = 0
		}
		left -= more
		p.Splits = append(p.Splits, slowLeast(s, i)+more)
	}
	p.Splits[source.IntN(len(p.Splits))] += left
	return p
}
