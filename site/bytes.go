package site

import (
	"bytes"
	"math"

	"stopline/api"
	"stopline/raw"
)

const sumLen = 4

// Write is a site's bytes.
func Write(s api.Site) ([]byte, api.Errno) {
	if e := Check(s); e != api.OK {
		return nil, e
	}
	list := siteBytes(s)
	return append(list, sumOf(list)...), api.OK
}

// Read is the site whose bytes b are.
func Read(b []byte) (api.Site, api.Errno) {
	if len(b) < sumLen {
		return api.Site{}, api.ErrBad
	}
	told, sum := b[:len(b)-sumLen], b[len(b)-sumLen:]
	if !bytes.Equal(sum, sumOf(told)) {
		return api.Site{}, api.ErrBad
	}
	r := planReader{numbers: numbers{rest: told}}
	s := r.site()
	if !r.done() || Check(s) != api.OK {
		return api.Site{}, api.ErrBad
	}
	return s, api.OK
}

// Whole is the bytes of plans.
func Whole(l []api.Plan) ([]byte, api.Errno) {
	if len(l) > api.MaxPlans {
		return nil, api.ErrMany
	}
	if !allMayBe(l) {
		return nil, api.ErrPlan
	}
	return planBytes(l), api.OK
}

// Parts are the plans whose bytes b are.
func Parts(b []byte) ([]api.Plan, api.Errno) {
	r := planReader{numbers: numbers{rest: b}}
	r.readPlans()
	if !r.done() || !allMayBe(r.plans) {
		return nil, api.ErrBad
	}
	return r.plans, api.OK
}

// sumOf asks for no error: every sum has four bytes.
func sumOf(b []byte) []byte {
	list, _ := raw.Put(uint64(raw.Sum(b)), sumLen)
	return list
}

// withSmall is list, and behind it each number's small bytes; none that may be is below 0.
func withSmall(list []byte, more ...int) []byte {
	for _, n := range more {
		list = append(list, raw.Small(uint64(n))...)
	}
	return list
}

// siteBytes are all bytes of a site ahead of its sum.
func siteBytes(s api.Site) []byte {
	list := withSmall(nil, s.Id, len(s.Groups))
	for _, g := range s.Groups {
		list = withSmall(list, int(g.Kind), g.Min, g.Yellow)
	}
	for _, set := range s.Apart {
		list = withSmall(list, int(set))
	}
	for _, row := range s.Between {
		list = withSmall(list, row...)
	}
	list = withSmall(list, len(s.Phases))
	for _, p := range s.Phases {
		always := 0
		if p.Always {
			always = 1
		}
		list = withSmall(list, int(p.Groups), p.Min, p.Max, p.Gap, always)
	}
	list = withSmall(list, len(s.Eyes))
	for _, y := range s.Eyes {
		list = withSmall(list, y.Phase, y.On, y.Off, y.Turns)
	}
	list = withSmall(list, s.Watch, s.Feed, s.Heal, s.Low, s.High)
	return append(list, planBytes(s.Plans)...)
}

func planBytes(l []api.Plan) []byte {
	list := withSmall(nil, len(l))
	for _, p := range l {
		list = withSmall(list, p.Cycle, p.Offset, len(p.Splits))
		list = withSmall(list, p.Splits...)
	}
	return list
}

// numbers reads small bytes, number by number. Where one may not be, it is bad for good and tells noughts: so it is asked once, at the end.
type numbers struct {
	rest []byte
	bad  bool
}

// upTo is the next number, which must not be above most: what it is put into holds it then.
func (r *numbers) upTo(most uint64) uint64 {
	n, many, e := raw.Read(r.rest)
	if r.bad || e != api.OK || n > most {
		r.bad = true
		return 0
	}
	r.rest = r.rest[many:]
	return n
}

// number is any one but a set: none that may be is above MaxTicks.
func (r *numbers) number() int { return int(r.upTo(api.MaxTicks)) }

// many is how many parts come: bounded, as room is made for them ahead of reading them.
func (r *numbers) many(most int) int { return int(r.upTo(uint64(most))) }

func (r *numbers) set() uint32 { return uint32(r.upTo(math.MaxUint32)) }

func (r *numbers) done() bool { return !r.bad && len(r.rest) == 0 }

// planReader is what plans are put into as they are read; a site's other parts are read by the same reader, ahead of them.
type planReader struct {
	numbers
	plans []api.Plan
}

func (r *planReader) readPlans() {
	r.plans = listOf(r.many(api.MaxPlans), r.plan)
}

func (r *planReader) plan() api.Plan {
	p := api.Plan{Cycle: r.number(), Offset: r.number()}
	p.Splits = listOf(r.many(api.MaxPhases), r.number)
	return p
}

func (r *planReader) site() api.Site {
	s := api.Site{Id: r.number()}
	s.Groups = listOf(r.many(api.MaxGroups), r.group)
	groups := len(s.Groups)
	s.Apart = listOf(groups, r.set)
	s.Between = listOf(groups, func() []int { return listOf(groups, r.number) })
	s.Phases = listOf(r.many(api.MaxPhases), r.phase)
	s.Eyes = listOf(r.many(api.MaxEyes), r.eye)
	s.Watch, s.Feed, s.Heal = r.number(), r.number(), r.number()
	s.Low, s.High = r.number(), r.number()
	r.readPlans()
	s.Plans = r.plans
	return s
}

func (r *numbers) group() api.Group {
	return api.Group{Kind: uint8(r.upTo(math.MaxUint8)), Min: r.number(), Yellow: r.number()}
}

func (r *numbers) phase() api.Phase {
	return api.Phase{Groups: r.set(), Min: r.number(), Max: r.number(), Gap: r.number(), Always: r.upTo(1) == 1}
}

func (r *numbers) eye() api.Eye {
	return api.Eye{Phase: r.number(), On: r.number(), Off: r.number(), Turns: r.number()}
}

// listOf is a list of what is read so many times.
func listOf[T any](many int, next func() T) []T {
	list := make([]T, many)
	for i := range list {
		list[i] = next()
	}
	return list
}

// allMayBe tells whether each plan may be at all.
func allMayBe(l []api.Plan) bool {
	for _, p := range l {
		if !mayBe(p) {
			return false
		}
	}
	return true
}
