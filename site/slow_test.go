package site

import (
	"bytes"
	"encoding/binary"
	"hash/crc32"
	"math/big"
	"math/rand/v2"
	"reflect"
	"slices"

	"stopline/api"
)

// What stands here asks the chapter's words one by one, with the library's own numbers and sum, and with sets by their bits' worth: the package is held against it.

func slowHas(set uint32, i int) bool { return i >= 0 && i < 32 && set/(1<<uint(i))%2 == 1 }

func slowBetween(n, low, high int) bool { return n >= low && n <= high }

func slowLies(s api.Site, from, to int) int {
	most := 0
	for a := range s.Groups {
		for b := range s.Groups {
			if slowHas(s.Phases[from].Groups, a) && slowHas(s.Phases[to].Groups, b) && slowHas(s.Apart[a], b) {
				most = max(most, s.Between[a][b])
			}
		}
	}
	return most
}

// slowNext is what lies from phase i to the next one: with one phase nothing.
func slowNext(s api.Site, i int) int {
	switch {
	case len(s.Phases) == 1:
		return 0
	case i == len(s.Phases)-1:
		return slowLies(s, i, 0)
	}
	return slowLies(s, i, i+1)
}

func slowRound(s api.Site) int {
	sum := 0
	for i, p := range s.Phases {
		sum += p.Min + slowNext(s, i)
	}
	return sum
}

func slowGroups(s api.Site) bool {
	if s.Id < 0 || s.Id > 65535 || len(s.Groups) == 0 || len(s.Groups) > 16 {
		return false
	}
	for _, g := range s.Groups {
		if g.Kind != 1 && g.Kind != 2 || !slowBetween(g.Min, 1, 1048576) || !slowBetween(g.Yellow, 1, 1048576) {
			return false
		}
	}
	return true
}

func slowPairs(s api.Site) bool {
	if len(s.Apart) != len(s.Groups) || len(s.Between) != len(s.Groups) {
		return false
	}
	for a := range s.Groups {
		if len(s.Between[a]) != len(s.Groups) {
			return false
		}
		for i := range 32 {
			if slowHas(s.Apart[a], i) && (i >= len(s.Groups) || i == a || !slowHas(s.Apart[i], a)) {
				return false
			}
		}
		for b, n := range s.Between[a] {
			if slowHas(s.Apart[a], b) && !slowBetween(n, s.Groups[a].Yellow, 1048576) || !slowHas(s.Apart[a], b) && n != 0 {
				return false
			}
		}
	}
	return true
}

func slowPhases(s api.Site) bool {
	if len(s.Phases) == 0 || len(s.Phases) > 8 {
		return false
	}
	in := map[int]bool{}
	for _, p := range s.Phases {
		least, some := 1, false
		for a := range 32 {
			if !slowHas(p.Groups, a) {
				continue
			}
			if a >= len(s.Groups) {
				return false
			}
			for b := range s.Groups {
				if slowHas(p.Groups, b) && slowHas(s.Apart[a], b) {
					return false
				}
			}
			in[a], some, least = true, true, max(least, s.Groups[a].Min)
		}
		if !some || !slowBetween(p.Min, least, 1048576) || !slowBetween(p.Max, p.Min, 1048576) || !slowBetween(p.Gap, 1, 1048576) {
			return false
		}
	}
	return len(in) == len(s.Groups)
}

func slowRest(s api.Site) bool {
	if len(s.Eyes) > 24 || len(s.Plans) > 8 {
		return false
	}
	for _, y := range s.Eyes {
		if !slowBetween(y.Phase, 0, len(s.Phases)-1) || !slowBetween(y.On, 1, 1048576) || !slowBetween(y.Off, 1, 1048576) || !slowBetween(y.Turns, 1, 64) {
			return false
		}
	}
	for _, n := range []int{s.Watch, s.Feed, s.Heal} {
		if !slowBetween(n, 1, 1048576) {
			return false
		}
	}
	return slowBetween(s.Low, slowRound(s), 1048576) && slowBetween(s.High, s.Low, 1048576)
}

func slowMay(s api.Site) bool {
	if !slowGroups(s) || !slowPairs(s) || !slowPhases(s) || !slowRest(s) {
		return false
	}
	for _, p := range s.Plans {
		if !slowFits(s, p) {
			return false
		}
	}
	return true
}

func slowFits(s api.Site, p api.Plan) bool {
	if !slowBetween(p.Cycle, s.Low, s.High) || p.Offset < 0 || p.Offset >= p.Cycle || len(p.Splits) != len(s.Phases) {
		return false
	}
	sum := new(big.Int)
	for i, n := range p.Splits {
		if n < s.Phases[i].Min+slowNext(s, i) {
			return false
		}
		sum.Add(sum, big.NewInt(int64(n)))
	}
	return sum.Cmp(big.NewInt(int64(p.Cycle))) == 0
}

func slowAtAll(p api.Plan) bool {
	if !slowBetween(p.Cycle, 1, 1048576) || p.Offset < 0 || p.Offset >= p.Cycle || len(p.Splits) == 0 || len(p.Splits) > 8 {
		return false
	}
	return !slices.ContainsFunc(p.Splits, func(n int) bool { return n < 0 || n > 1048576 })
}

func varints(numbers ...int) []byte {
	var list []byte
	for _, n := range numbers {
		list = binary.AppendUvarint(list, uint64(n))
	}
	return list
}

func slowPlanNumbers(l []api.Plan) []int {
	list := []int{len(l)}
	for _, p := range l {
		list = append(append(list, p.Cycle, p.Offset, len(p.Splits)), p.Splits...)
	}
	return list
}

func slowNumbers(s api.Site) []int {
	list := []int{s.Id, len(s.Groups)}
	for _, g := range s.Groups {
		list = append(list, int(g.Kind), g.Min, g.Yellow)
	}
	for _, set := range s.Apart {
		list = append(list, int(set))
	}
	for _, row := range s.Between {
		list = append(list, row...)
	}
	list = append(list, len(s.Phases))
	for _, p := range s.Phases {
		list = append(list, int(p.Groups), p.Min, p.Max, p.Gap, map[bool]int{true: 1}[p.Always])
	}
	list = append(list, len(s.Eyes))
	for _, y := range s.Eyes {
		list = append(list, y.Phase, y.On, y.Off, y.Turns)
	}
	list = append(list, s.Watch, s.Feed, s.Heal, s.Low, s.High)
	return append(list, slowPlanNumbers(s.Plans)...)
}

// summed is told with its sum behind it.
func summed(told []byte) []byte {
	return binary.LittleEndian.AppendUint32(bytes.Clone(told), crc32.ChecksumIEEE(told))
}

func slowBytes(s api.Site) []byte { return summed(varints(slowNumbers(s)...)) }

// taker takes numbers by the library; what is not the fewest bytes of one is found when all is written again.
type taker struct{ rest []byte }

func (t *taker) next() uint64 {
	n, k := binary.Uvarint(t.rest)
	t.rest = t.rest[max(k, 0):]
	return n
}

func (t *taker) int() int { return int(t.next()) }

// few is a count; one that no list has is taken as one too many, so that nothing that is read so may be.
func (t *taker) few() int { return int(min(t.next(), 30)) }

func (t *taker) plans() []api.Plan {
	l := make([]api.Plan, t.few())
	for i := range l {
		l[i].Cycle, l[i].Offset = t.int(), t.int()
		l[i].Splits = make([]int, t.few())
		for j := range l[i].Splits {
			l[i].Splits[j] = t.int()
		}
	}
	return l
}

func (t *taker) site() api.Site {
	s := api.Site{Id: t.int()}
	s.Groups = make([]api.Group, t.few())
	for i := range s.Groups {
		s.Groups[i] = api.Group{Kind: uint8(t.next()), Min: t.int(), Yellow: t.int()}
	}
	for range s.Groups {
		s.Apart = append(s.Apart, uint32(t.next()))
	}
	for range s.Groups {
		row := []int{}
		for range s.Groups {
			row = append(row, t.int())
		}
		s.Between = append(s.Between, row)
	}
	s.Phases = make([]api.Phase, t.few())
	for i := range s.Phases {
		s.Phases[i] = api.Phase{Groups: uint32(t.next()), Min: t.int(), Max: t.int(), Gap: t.int(), Always: t.next() == 1}
	}
	s.Eyes = make([]api.Eye, t.few())
	for i := range s.Eyes {
		s.Eyes[i] = api.Eye{Phase: t.int(), On: t.int(), Off: t.int(), Turns: t.int()}
	}
	s.Watch, s.Feed, s.Heal, s.Low, s.High = t.int(), t.int(), t.int(), t.int(), t.int()
	s.Plans = t.plans()
	return s
}

// slowRead takes b for a site's bytes, and asks whether that is one that may be and whose bytes are b.
func slowRead(b []byte) (api.Site, bool) {
	t := taker{rest: b}
	s := t.site()
	return s, slowMay(s) && bytes.Equal(slowBytes(s), b)
}

func slowParts(b []byte) ([]api.Plan, bool) {
	t := taker{rest: b}
	l := t.plans()
	well := len(l) <= 8 && !slices.ContainsFunc(l, func(p api.Plan) bool { return !slowAtAll(p) })
	return l, well && bytes.Equal(varints(slowPlanNumbers(l)...), b)
}

// plain is v with lists without elements as nil, so that DeepEqual does not mind which they were.
func plain(s api.Site) api.Site {
	s = clone(s)
	if len(s.Eyes) == 0 {
		s.Eyes = nil
	}
	if len(s.Plans) == 0 {
		s.Plans = nil
	}
	return s
}

func sameSite(a, b api.Site) bool { return reflect.DeepEqual(plain(a), plain(b)) }

func samePlans(a, b []api.Plan) bool {
	return slices.EqualFunc(a, b, func(p, q api.Plan) bool {
		return p.Cycle == q.Cycle && p.Offset == q.Offset && slices.Equal(p.Splits, q.Splits)
	})
}

func isNoSite(s api.Site) bool { return reflect.DeepEqual(plain(s), api.Site{}) }

func clonePlans(l []api.Plan) []api.Plan {
	l = slices.Clone(l)
	for i := range l {
		l[i].Splits = slices.Clone(l[i].Splits)
	}
	return l
}

func clone(s api.Site) api.Site {
	s.Groups, s.Apart, s.Phases, s.Eyes = slices.Clone(s.Groups), slices.Clone(s.Apart), slices.Clone(s.Phases), slices.Clone(s.Eyes)
	s.Between = slices.Clone(s.Between)
	for i := range s.Between {
		s.Between[i] = slices.Clone(s.Between[i])
	}
	s.Plans = clonePlans(s.Plans)
	return s
}

// two is the site S of the chapter's Examples.
func two() api.Site {
	g := api.Group{Kind: api.Wheels, Min: 2, Yellow: 1}
	return api.Site{
		Groups:  []api.Group{g, g},
		Apart:   []uint32{2, 1},
		Between: [][]int{{0, 2}, {2, 0}},
		Phases:  []api.Phase{{Groups: 1, Min: 2, Max: 5, Gap: 1}, {Groups: 2, Min: 2, Max: 5, Gap: 1}},
		Watch:   3, Feed: 2, Heal: 4, Low: 8, High: 20,
	}
}

// three has a part of every sort, and no two numbers alike where they might be taken for one another.
func three() api.Site {
	return api.Site{
		Id:      300,
		Groups:  []api.Group{{Kind: api.Wheels, Min: 5, Yellow: 3}, {Kind: api.Feet, Min: 7, Yellow: 4}, {Kind: api.Wheels, Min: 6, Yellow: 2}},
		Apart:   []uint32{2, 5, 2},
		Between: [][]int{{0, 9, 0}, {10, 0, 11}, {0, 13, 0}},
		Phases:  []api.Phase{{Groups: 5, Min: 8, Max: 200, Gap: 14}, {Groups: 2, Min: 12, Max: 15, Gap: 16, Always: true}, {Groups: 4, Min: 17, Max: 18, Gap: 19}},
		Eyes:    []api.Eye{{Phase: 2, On: 129, Off: 20, Turns: 21}, {Phase: 0, On: 22, Off: 23, Turns: 24}},
		Watch:   25, Feed: 26, Heal: 27, Low: 61, High: 1000,
		Plans: []api.Plan{{Cycle: 61, Offset: 60, Splits: []int{21, 23, 17}}, {Cycle: 1000, Offset: 0, Splits: []int{400, 350, 250}}},
	}
}

// alone has one group and one phase, and all else as low as it may be.
func alone() api.Site {
	return api.Site{
		Groups:  []api.Group{{Kind: api.Feet, Min: 1, Yellow: 1}},
		Apart:   []uint32{0},
		Between: [][]int{{0}},
		Phases:  []api.Phase{{Groups: 1, Min: 1, Max: 1, Gap: 1}},
		Watch:   1, Feed: 1, Heal: 1, Low: 1, High: 1,
	}
}

// greatest has as many of all as may be, and most numbers as high as they may be.
func greatest() api.Site {
	const top = api.MaxTicks
	s := api.Site{Id: 65535, Watch: top, Feed: top, Heal: top, Low: 8 * (1000 + 70000), High: top}
	for i := range 16 {
		row := make([]int, 16)
		for j := range row {
			if j%2 != i%2 {
				row[j] = 70000 - i - j
			}
		}
		row[(i+1)%16] = 70000
		s.Between = append(s.Between, row)
		s.Groups = append(s.Groups, api.Group{Kind: uint8(1 + i%2), Min: 1000 - i, Yellow: 60000 + i})
		s.Apart = append(s.Apart, uint32(0xaaaa>>(i%2)))
	}
	for i := range 8 {
		s.Phases = append(s.Phases, api.Phase{Groups: uint32(0x5555 << (i % 2)), Min: 1000, Max: top, Gap: top, Always: i%3 == 0})
		splits := slices.Repeat([]int{71000}, 8)
		splits[i] += top - 8*71000
		s.Plans = append(s.Plans, api.Plan{Cycle: top, Offset: top - 1 - i, Splits: splits})
	}
	for i := range 24 {
		s.Eyes = append(s.Eyes, api.Eye{Phase: i % 8, On: top, Off: top - i, Turns: 64})
	}
	return s
}

// some is a site that may be, of any size.
func some(chance *rand.Rand) api.Site {
	groups := 1 + chance.IntN(16)
	s := api.Site{Id: chance.IntN(65536), Apart: make([]uint32, groups)}
	for i := range groups {
		s.Groups = append(s.Groups, api.Group{Kind: uint8(1 + chance.IntN(2)), Min: 1 + chance.IntN(300), Yellow: 1 + chance.IntN(200)})
		s.Between = append(s.Between, make([]int, groups))
		for j := range i {
			if chance.IntN(2) == 0 {
				s.Apart[i] |= 1 << j
				s.Apart[j] |= 1 << i
			}
		}
	}
	for i := range groups {
		for j := range groups {
			if slowHas(s.Apart[i], j) {
				s.Between[i][j] = s.Groups[i].Yellow + chance.IntN(3)*chance.IntN(200)
			}
		}
	}
	withPhases(chance, &s)
	if len(s.Phases) > 8 {
		return some(chance)
	}
	for range chance.IntN(25) {
		s.Eyes = append(s.Eyes, api.Eye{Phase: chance.IntN(len(s.Phases)), On: 1 + chance.IntN(1000), Off: 1 + chance.IntN(1000), Turns: 1 + chance.IntN(64)})
	}
	s.Watch, s.Feed, s.Heal = 1+chance.IntN(400), 1+chance.IntN(400), 1+chance.IntN(400)
	s.Low = slowRound(s) + chance.IntN(3)*chance.IntN(50)
	s.High = s.Low + chance.IntN(3)*chance.IntN(500)
	for range chance.IntN(9) {
		s.Plans = append(s.Plans, somePlan(chance, s))
	}
	return s
}

// withPhases makes each group green in some phase: together with others, where these let it.
func withPhases(chance *rand.Rand, s *api.Site) {
	for served := uint32(0); served != 1<<len(s.Groups)-1; {
		p := api.Phase{Gap: 1 + chance.IntN(90), Always: chance.IntN(2) == 0}
		for _, a := range chance.Perm(len(s.Groups)) {
			fresh := !slowHas(served, a)
			if s.Apart[a]&p.Groups == 0 && (fresh || p.Groups != 0 && chance.IntN(2) == 0) {
				p.Groups |= 1 << a
				p.Min = max(p.Min, s.Groups[a].Min)
			}
		}
		served |= p.Groups
		p.Min += chance.IntN(2) * chance.IntN(50)
		p.Max = p.Min + chance.IntN(2)*chance.IntN(200)
		s.Phases = append(s.Phases, p)
	}
}

// somePlan is one of s.
func somePlan(chance *rand.Rand, s api.Site) api.Plan {
	p := api.Plan{Cycle: s.Low + chance.IntN(s.High-s.Low+1)}
	p.Offset = chance.IntN(p.Cycle)
	for i, phase := range s.Phases {
		p.Splits = append(p.Splits, phase.Min+slowNext(s, i))
	}
	for left := p.Cycle - slowRound(s); left > 0; {
		n := 1 + chance.IntN(left)
		p.Splits[chance.IntN(len(p.Splits))] += n
		left -= n
	}
	return p
}

// sites are those of all sorts that may be.
func sites() []api.Site {
	list, chance := []api.Site{two(), three(), alone(), greatest()}, rand.New(rand.NewPCG(5, 1))
	for range 200 {
		list = append(list, some(chance))
	}
	return list
}
