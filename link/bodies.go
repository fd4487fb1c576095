package link

import (
	"stopline/api"
	"stopline/site"
	"stopline/small"
)

const maxId = 65535 // of a site

// Command and Report are bodies of messages; OfCommand and OfReport read them.
func Command(c api.Command) ([]byte, api.Errno) {
	if e := checkCommand(c); e != api.OK {
		return nil, e
	}
	list := small.Append(nil, c.Site, c.Cycle, c.Offset, len(c.Splits))
	return small.Append(list, c.Splits...), api.OK
}

func Report(r api.Report) ([]byte, api.Errno) {
	if e := checkReport(r); e != api.OK {
		return nil, e
	}
	list := small.Append(nil, r.Site, int(r.Mode), r.Tick, len(r.Loads))
	for _, load := range r.Loads {
		list = small.Append(list, int(load))
	}
	return list, api.OK
}

func OfCommand(b []byte) (api.Command, api.Errno) {
	r := reader{small.ReaderOf(b)}
	c := api.Command{Site: r.site(), Cycle: r.Number(), Offset: r.Number()}
	c.Splits = small.List(r.Many(api.MaxPhases), r.Number)
	if !r.Done() || checkCommand(c) != api.OK {
		return api.Command{}, api.ErrBad
	}
	return c, api.OK
}

func OfReport(b []byte) (api.Report, api.Errno) {
	r := reader{small.ReaderOf(b)}
	told := api.Report{Site: r.site(), Mode: r.mode(), Tick: r.tick()}
	told.Loads = small.List(r.Many(api.MaxPhases), r.load)
	if !r.Done() {
		return api.Report{}, api.ErrBad
	}
	return told, api.OK
}

// checkCommand asks for the plan as one of a list: so package site tells whether it may be at all.
func checkCommand(c api.Command) api.Errno {
	if !within(c.Site, 0, maxId) {
		return api.ErrArg
	}
	_, e := site.Whole([]api.Plan{{Cycle: c.Cycle, Offset: c.Offset, Splits: c.Splits}})
	return e
}

func checkReport(r api.Report) api.Errno {
	if !within(r.Site, 0, maxId) || r.Mode > api.ModeMaster || !within(r.Tick, 0, api.MaxCounter) {
		return api.ErrArg
	}
	if len(r.Loads) > api.MaxPhases {
		return api.ErrMany
	}
	for _, load := range r.Loads {
		if load < 0 || load > api.Top {
			return api.ErrArg
		}
	}
	return api.OK
}

// reader reads each number of a body within its bounds.
type reader struct{ small.Reader }

func (r *reader) site() int   { return int(r.UpTo(maxId)) }
func (r *reader) mode() uint8 { return uint8(r.UpTo(uint64(api.ModeMaster))) }
func (r *reader) tick() int   { return int(r.UpTo(api.MaxCounter)) }
func (r *reader) load() int64 { return int64(r.UpTo(api.Top)) }
