package net

import (
	"bytes"
	"encoding/binary"
	"hash/crc32"
	"math/rand/v2"
	"reflect"
	"slices"

	"stopline/api"
	"stopline/site"
)

const top = api.MaxTicks

// What stands here asks the chapter's words one by one, each pair of parts by itself, with the library's own numbers and sum: the package is held against it. Of a site package site is asked.

func slowBetween(n, low, high int) bool { return n >= low && n <= high }

func slowSites(n api.Net) bool {
	for i, s := range n.Sites {
		if site.Check(s) != api.OK {
			return false
		}
		for _, other := range n.Sites[:i] {
			if other.Id == s.Id {
				return false
			}
		}
	}
	return slowBetween(len(n.Sites), 1, 12)
}

func slowSubs(n api.Net) bool {
	times := make([]int, len(n.Sites))
	for _, sub := range n.Subs {
		if len(sub.Sites) == 0 || !slices.Contains(sub.Sites, sub.Critical) {
			return false
		}
		for _, place := range sub.Sites {
			if place < 0 || place >= len(n.Sites) {
				return false
			}
			times[place]++
		}
	}
	for _, k := range times {
		if k != 1 {
			return false
		}
	}
	return slowBetween(len(n.Subs), 1, 6)
}

func slowCycles(n api.Net) bool {
	if !slowBetween(n.Low, 1, 1048576) || !slowBetween(n.High, n.Low, 1048576) || !slowBetween(n.Step, 1, 1048576) {
		return false
	}
	for _, s := range n.Sites {
		if n.Low < s.Low || n.High > s.High {
			return false
		}
	}
	for times := range 65 {
		if n.Low+times*n.Step == n.High {
			return true
		}
	}
	return false
}

func slowWeds(n api.Net) bool {
	for i, w := range n.Weds {
		if w.A < 0 || w.B < 0 || w.A >= len(n.Subs) || w.B >= len(n.Subs) || w.A >= w.B {
			return false
		}
		for _, other := range n.Weds[:i] {
			if other.A == w.A && other.B == w.B {
				return false
			}
		}
		if !slowBetween(w.Votes, 1, 1048576) || !slowBetween(len(w.Offsets), 1, 8) {
			return false
		}
		for _, offset := range w.Offsets {
			if offset < 0 || offset >= n.Low {
				return false
			}
		}
	}
	return len(n.Weds) <= 8
}

func slowMay(n api.Net) bool { return slowSites(n) && slowSubs(n) && slowCycles(n) && slowWeds(n) }

// summed is told with its sum behind it.
func summed(told []byte) []byte {
	return binary.LittleEndian.AppendUint32(bytes.Clone(told), crc32.ChecksumIEEE(told))
}

// pieces are a region's bytes ahead of the sum: each number's, each site's.
type pieces struct {
	list    [][]byte
	isSites []bool
}

func (p *pieces) number(numbers ...int) {
	for _, n := range numbers {
		p.list = append(p.list, binary.AppendUvarint(nil, uint64(n)))
		p.isSites = append(p.isSites, false)
	}
}

func (p *pieces) site(s api.Site) {
	b, _ := site.Write(s)
	p.number(len(b))
	p.list = append(p.list, b)
	p.isSites = append(p.isSites, true)
}

func piecesOf(n api.Net) pieces {
	p := pieces{}
	p.number(len(n.Sites))
	for _, s := range n.Sites {
		p.site(s)
	}
	p.number(len(n.Subs))
	for _, sub := range n.Subs {
		p.number(len(sub.Sites))
		p.number(sub.Sites...)
		p.number(sub.Critical)
	}
	p.number(n.Low, n.High, n.Step)
	p.number(len(n.Weds))
	for _, w := range n.Weds {
		p.number(w.A, w.B, w.Votes, len(w.Offsets))
		p.number(w.Offsets...)
	}
	return p
}

// with is all of it, with its sum, but for other bytes at place i.
func (p pieces) with(i int, other []byte) []byte {
	list := slices.Clone(p.list)
	list[i] = other
	return summed(slices.Concat(list...))
}

func slowBytes(n api.Net) []byte { return summed(slices.Concat(piecesOf(n).list...)) }

// taker takes numbers by the library; what is not the fewest bytes of one is found when all is written again.
type taker struct{ rest []byte }

func (t *taker) next() uint64 {
	n, k := binary.Uvarint(t.rest)
	t.rest = t.rest[max(k, 0):]
	return n
}

// list is taken with at most one more than any list may have, so that nothing that is read so may be.
func (t *taker) list() []int {
	list := make([]int, min(t.next(), 13))
	for i := range list {
		list[i] = int(t.next())
	}
	return list
}

func (t *taker) net() api.Net {
	n := api.Net{}
	for range min(t.next(), 13) {
		many := min(t.next(), uint64(len(t.rest)))
		s, _ := site.Read(t.rest[:many])
		t.rest = t.rest[many:]
		n.Sites = append(n.Sites, s)
	}
	for range min(t.next(), 13) {
		n.Subs = append(n.Subs, api.Sub{Sites: t.list(), Critical: int(t.next())})
	}
	n.Low, n.High, n.Step = int(t.next()), int(t.next()), int(t.next())
	for range min(t.next(), 13) {
		n.Weds = append(n.Weds, api.Wed{A: int(t.next()), B: int(t.next()), Votes: int(t.next()), Offsets: t.list()})
	}
	return n
}

// slowRead takes b for a region's bytes, and asks whether that is one that may be and whose bytes are b.
func slowRead(b []byte) (api.Net, bool) {
	t := taker{rest: b}
	n := t.net()
	return n, slowMay(n) && bytes.Equal(slowBytes(n), b)
}

// plain is v with lists without elements as nil, so that DeepEqual does not mind which they were.
func plain(n api.Net) api.Net {
	n = clone(n)
	for i := range n.Sites {
		if s := &n.Sites[i]; len(s.Eyes) == 0 {
			s.Eyes = nil
		}
		if s := &n.Sites[i]; len(s.Plans) == 0 {
			s.Plans = nil
		}
	}
	if len(n.Weds) == 0 {
		n.Weds = nil
	}
	return n
}

func sameNet(a, b api.Net) bool { return reflect.DeepEqual(plain(a), plain(b)) }

func isNoNet(n api.Net) bool { return reflect.DeepEqual(plain(n), api.Net{}) }

func cloneSite(s api.Site) api.Site {
	s.Groups, s.Apart, s.Phases, s.Eyes = slices.Clone(s.Groups), slices.Clone(s.Apart), slices.Clone(s.Phases), slices.Clone(s.Eyes)
	s.Between, s.Plans = slices.Clone(s.Between), slices.Clone(s.Plans)
	for i := range s.Between {
		s.Between[i] = slices.Clone(s.Between[i])
	}
	for i := range s.Plans {
		s.Plans[i].Splits = slices.Clone(s.Plans[i].Splits)
	}
	return s
}

func clone(n api.Net) api.Net {
	n.Sites, n.Subs, n.Weds = slices.Clone(n.Sites), slices.Clone(n.Subs), slices.Clone(n.Weds)
	for i := range n.Sites {
		n.Sites[i] = cloneSite(n.Sites[i])
	}
	for i := range n.Subs {
		n.Subs[i].Sites = slices.Clone(n.Subs[i].Sites)
	}
	for i := range n.Weds {
		n.Weds[i].Offsets = slices.Clone(n.Weds[i].Offsets)
	}
	return n
}

// two is the site S of chapter 5's Examples, with an Id of its own.
func two(id int) api.Site {
	g := api.Group{Kind: api.Wheels, Min: 2, Yellow: 1}
	return api.Site{
		Id:      id,
		Groups:  []api.Group{g, g},
		Apart:   []uint32{2, 1},
		Between: [][]int{{0, 2}, {2, 0}},
		Phases:  []api.Phase{{Groups: 1, Min: 2, Max: 5, Gap: 1}, {Groups: 2, Min: 2, Max: 5, Gap: 1}},
		Watch:   3, Feed: 2, Heal: 4, Low: 8, High: 20,
	}
}

// three has a part of every sort.
func three(id int) api.Site {
	return api.Site{
		Id:      id,
		Groups:  []api.Group{{Kind: api.Wheels, Min: 5, Yellow: 3}, {Kind: api.Feet, Min: 7, Yellow: 4}, {Kind: api.Wheels, Min: 6, Yellow: 2}},
		Apart:   []uint32{2, 5, 2},
		Between: [][]int{{0, 9, 0}, {10, 0, 11}, {0, 13, 0}},
		Phases:  []api.Phase{{Groups: 5, Min: 8, Max: 200, Gap: 14}, {Groups: 2, Min: 12, Max: 15, Gap: 16, Always: true}, {Groups: 4, Min: 17, Max: 18, Gap: 19}},
		Eyes:    []api.Eye{{Phase: 2, On: 129, Off: 20, Turns: 21}, {Phase: 0, On: 22, Off: 23, Turns: 24}},
		Watch:   25, Feed: 26, Heal: 27, Low: 61, High: 1000,
		Plans: []api.Plan{{Cycle: 61, Offset: 60, Splits: []int{21, 23, 17}}, {Cycle: 1000, Offset: 0, Splits: []int{400, 350, 250}}},
	}
}

// one has one group and one phase, and any cycle that it is told.
func one(id, low, high int) api.Site {
	return api.Site{
		Id:      id,
		Groups:  []api.Group{{Kind: api.Feet, Min: 1, Yellow: 1}},
		Apart:   []uint32{0},
		Between: [][]int{{0}},
		Phases:  []api.Phase{{Groups: 1, Min: 1, Max: 1, Gap: 1}},
		Watch:   1, Feed: 1, Heal: 1, Low: low, High: high,
	}
}

// great has as many of all as a site may have, in each phase a group of each half, and numbers of three bytes.
func great(id int) api.Site {
	s := api.Site{Id: id, Watch: top, Feed: top, Heal: top, Low: 8 * (20000 + 70000), High: top}
	for i := range 16 {
		row := make([]int, 16)
		for j := range row {
			if j%8 != i%8 {
				row[j] = 70000 - i - j
			}
		}
		row[(i+1)%16] = 70000
		s.Between = append(s.Between, row)
		s.Groups = append(s.Groups, api.Group{Kind: uint8(1 + i%2), Min: 20000 - i, Yellow: 60000 + i})
		s.Apart = append(s.Apart, uint32(0xffff&^(0x101<<(i%8))))
	}
	for i := range 8 {
		s.Phases = append(s.Phases, api.Phase{Groups: uint32(0x101 << i), Min: 20000, Max: top, Gap: top, Always: i%3 == 0})
		splits := slices.Repeat([]int{90000}, 8)
		splits[i] += top - 8*90000
		s.Plans = append(s.Plans, api.Plan{Cycle: top, Offset: top - 1 - i, Splits: splits})
	}
	for i := range 24 {
		s.Eyes = append(s.Eyes, api.Eye{Phase: i % 8, On: top, Off: top - i, Turns: 64})
	}
	return s
}

// example is N of the chapter's Examples.
func example() api.Net {
	return api.Net{
		Sites: []api.Site{two(0), two(1)},
		Subs:  []api.Sub{{Sites: []int{0}, Critical: 0}, {Sites: []int{1}, Critical: 1}},
		Low:   8, High: 20, Step: 4,
		Weds: []api.Wed{{A: 0, B: 1, Votes: 3, Offsets: []int{0, 4}}},
	}
}

// mixed has subs whose sites are in no order, and no two numbers alike where they might be taken for one another.
func mixed() api.Net {
	wide := two(7)
	wide.Low, wide.High = 50, 500
	return api.Net{
		Sites: []api.Site{three(300), wide, one(65535, 1, top), one(3, 100, 160)},
		Subs:  []api.Sub{{Sites: []int{3, 0}, Critical: 0}, {Sites: []int{2}, Critical: 2}, {Sites: []int{1}, Critical: 1}},
		Low:   100, High: 160, Step: 20,
		Weds: []api.Wed{{A: 0, B: 2, Votes: 130, Offsets: []int{0, 99, 17}}, {A: 1, B: 2, Votes: 6, Offsets: []int{9}}},
	}
}

// least has one site, and all else as low as it may be.
func least() api.Net {
	return api.Net{Sites: []api.Site{one(0, 1, 1)}, Subs: []api.Sub{{Sites: []int{0}}}, Low: 1, High: 1, Step: 1}
}

// greatest has as many of all as may be, and most numbers as high as they may be.
func greatest() api.Net {
	n := api.Net{Low: top - 64*5000, High: top, Step: 5000}
	for i := range 12 {
		n.Sites = append(n.Sites, great(65535-i))
	}
	for i := range 6 {
		n.Subs = append(n.Subs, api.Sub{Sites: []int{i, 11 - i}, Critical: 11 - i})
	}
	for i := range 8 {
		w := api.Wed{A: i % 2, B: 2 + i/2, Votes: top - i}
		for j := range 8 {
			w.Offsets = append(w.Offsets, n.Low-1-j)
		}
		n.Weds = append(n.Weds, w)
	}
	return n
}

// some is a region that may be, of any size.
func some(chance *rand.Rand) api.Net {
	many := 1 + chance.IntN(12)
	n := api.Net{Low: 61 + chance.IntN(200), Step: 1 + chance.IntN(9)}
	n.High = n.Low + n.Step*chance.IntN(65)
	ids := chance.Perm(40)
	for i := range many {
		switch s := (api.Site{}); chance.IntN(3) {
		case 0:
			n.Sites = append(n.Sites, three(ids[i]))
		case 1:
			s = two(ids[i])
			s.High = n.High + chance.IntN(2)*chance.IntN(9)
			n.Sites = append(n.Sites, s)
		default:
			n.Sites = append(n.Sites, one(ids[i], n.Low-chance.IntN(2)*chance.IntN(9), n.High+chance.IntN(2)*chance.IntN(9)))
		}
	}
	subs := 1 + chance.IntN(min(6, many))
	n.Subs = make([]api.Sub, subs)
	for i, place := range chance.Perm(many) {
		sub := &n.Subs[i%subs]
		if i >= subs {
			sub = &n.Subs[chance.IntN(subs)]
		}
		sub.Sites = append(sub.Sites, place)
	}
	for i := range n.Subs {
		n.Subs[i].Critical = n.Subs[i].Sites[chance.IntN(len(n.Subs[i].Sites))]
	}
	withWeds(chance, &n)
	return n
}

func withWeds(chance *rand.Rand, n *api.Net) {
	for a := range n.Subs {
		for b := range a {
			if len(n.Weds) == 8 || chance.IntN(3) == 0 {
				continue
			}
			w := api.Wed{A: b, B: a, Votes: 1 + chance.IntN(300)}
			for range 1 + chance.IntN(8) {
				w.Offsets = append(w.Offsets, chance.IntN(n.Low))
			}
			n.Weds = append(n.Weds, w)
		}
	}
	chance.Shuffle(len(n.Weds), func(i, j int) { n.Weds[i], n.Weds[j] = n.Weds[j], n.Weds[i] })
}

// nets are those of all sorts that may be.
func nets() []api.Net {
	list, chance := []api.Net{example(), mixed(), least(), greatest()}, rand.New(rand.NewPCG(6, 2))
	for range 200 {
		list = append(list, some(chance))
	}
	return list
}
