package site

import (
	"math"

	"stopline/api"
	"stopline/small"
)

// Write is a site's bytes.
func Write(s api.Site) ([]byte, api.Errno) {
	if e := Check(s); e != api.OK {
		return nil, e
	}
	return small.WithSum(siteBytes(s)), api.OK
}

// Read is the site whose bytes b are.
func Read(b []byte) (api.Site, api.Errno) {
	told, well := small.AheadOfSum(b)
	if !well {
		return api.Site{}, api.ErrBad
	}
	r := planReader{Reader: small.ReaderOf(told)}
	s := r.site()
	if !r.Done() || Check(s) != api.OK {
		return api.Site{}, api.ErrBad
	}
	return s, api.OK
}

// Whole is the bytes of plans.
func Whole(l []api.Plan) ([]byte, api.Errno) {
	if len(l) > api.MaxPlans {
		return nil, api.ErrMany
	}
	if !allMayBe(l) {
		return nil, api.ErrPlan
	}
	return planBytes(l), api.OK
}

// Parts are the plans whose bytes b are.
func Parts(b []byte) ([]api.Plan, api.Errno) {
	r := planReader{Reader: small.ReaderOf(b)}
	r.readPlans()
	if !r.Done() || !allMayBe(r.plans) {
		return nil, api.ErrBad
	}
	return r.plans, api.OK
}

// siteBytes are all bytes of a site ahead of its sum.
func siteBytes(s api.Site) []byte {
	list := small.Append(nil, s.Id, len(s.Groups))
	for _, g := range s.Groups {
		list = small.Append(list, int(g.Kind), g.Min, g.Yellow)
	}
	for _, set := range s.Apart {
		list = small.Append(list, int(set))
	}
	for _, row := range s.Between {
		list = small.Append(list, row...)
	}
	list = small.Append(list, len(s.Phases))
	for _, p := range s.Phases {
		always := 0
		if p.Always {
			always = 1
		}
		list = small.Append(list, int(p.Groups), p.Min, p.Max, p.Gap, always)
	}
	list = small.Append(list, len(s.Eyes))
	for _, y := range s.Eyes {
		list = small.Append(list, y.Phase, y.On, y.Off, y.Turns)
	}
	list = small.Append(list, s.Watch, s.Feed, s.Heal, s.Low, s.High)
	return append(list, planBytes(s.Plans)...)
}

func planBytes(l []api.Plan) []byte {
	list := small.Append(nil, len(l))
	for _, p := range l {
		list = small.Append(list, p.Cycle, p.Offset, len(p.Splits))
		list = small.Append(list, p.Splits...)
	}
	return list
}

// planReader is what plans are put into as they are read; a site's other parts are read by the same reader, ahead of them.
type planReader struct {
	small.Reader
	plans []api.Plan
}

func (r *planReader) readPlans() {
	r.plans = small.List(r.Many(api.MaxPlans), r.plan)
}

func (r *planReader) plan() api.Plan {
	p := api.Plan{Cycle: r.Number(), Offset: r.Number()}
	p.Splits = small.List(r.Many(api.MaxPhases), r.Number)
	return p
}

func (r *planReader) site() api.Site {
	s := api.Site{Id: r.Number()}
	s.Groups = small.List(r.Many(api.MaxGroups), r.group)
	groups := len(s.Groups)
	s.Apart = small.List(groups, r.set)
	s.Between = small.List(groups, func() []int { return small.List(groups, r.Number) })
	s.Phases = small.List(r.Many(api.MaxPhases), r.phase)
	s.Eyes = small.List(r.Many(api.MaxEyes), r.eye)
	s.Watch, s.Feed, s.Heal = r.Number(), r.Number(), r.Number()
	s.Low, s.High = r.Number(), r.Number()
	r.readPlans()
	s.Plans = r.plans
	return s
}

func (r *planReader) set() uint32 { return uint32(r.UpTo(math.MaxUint32)) }

func (r *planReader) group() api.Group {
	return api.Group{Kind: uint8(r.UpTo(math.MaxUint8)), Min: r.Number(), Yellow: r.Number()}
}

func (r *planReader) phase() api.Phase {
	return api.Phase{Groups: r.set(), Min: r.Number(), Max: r.Number(), Gap: r.Number(), Always: r.UpTo(1) == 1}
}

func (r *planReader) eye() api.Eye {
	return api.Eye{Phase: r.Number(), On: r.Number(), Off: r.Number(), Turns: r.Number()}
}

// allMayBe tells whether each plan may be at all.
func allMayBe(l []api.Plan) bool {
	for _, p := range l {
		if !mayBe(p) {
			return false
		}
	}
	return true
}
