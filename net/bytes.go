package net

import (
	"stopline/api"
	"stopline/site"
	"stopline/small"
)

// Write is a region's bytes.
func Write(n api.Net) ([]byte, api.Errno) {
	if e := Check(n); e != api.OK {
		return nil, e
	}
	return small.WithSum(netBytes(n)), api.OK
}

// Read is the region whose bytes b are.
func Read(b []byte) (api.Net, api.Errno) {
	told, well := small.AheadOfSum(b)
	if !well {
		return api.Net{}, api.ErrBad
	}
	r := netReader{Reader: small.ReaderOf(told)}
	for _, read := range []func(){r.readSites, r.readSubs, r.readCycles, r.readWeds} {
		read()
	}
	if !r.Done() || Check(r.net) != api.OK {
		return api.Net{}, api.ErrBad
	}
	return r.net, api.OK
}

// netBytes are all bytes of a region ahead of its sum.
func netBytes(n api.Net) []byte {
	list := small.Append(nil, len(n.Sites))
	for _, s := range n.Sites {
		b, _ := site.Write(s) // No error to ask for: each site of a region may be.
		list = append(small.Append(list, len(b)), b...)
	}
	list = small.Append(list, len(n.Subs))
	for _, sub := range n.Subs {
		list = small.Append(list, len(sub.Sites))
		list = small.Append(list, sub.Sites...)
		list = small.Append(list, sub.Critical)
	}
	list = small.Append(list, n.Low, n.High, n.Step, len(n.Weds))
	for _, w := range n.Weds {
		list = small.Append(list, w.A, w.B, w.Votes, len(w.Offsets))
		list = small.Append(list, w.Offsets...)
	}
	return list
}

// netReader is what a region is put into as it is read, part by part.
type netReader struct {
	small.Reader
	net api.Net
}

func (r *netReader) readSites() {
	r.net.Sites = small.List(r.Many(api.MaxSites), r.site)
}

func (r *netReader) readSubs() {
	r.net.Subs = small.List(r.Many(api.MaxSubs), r.sub)
}

func (r *netReader) readCycles() {
	r.net.Low, r.net.High, r.net.Step = r.Number(), r.Number(), r.Number()
}

func (r *netReader) readWeds() {
	r.net.Weds = small.List(r.Many(api.MaxWeds), r.wed)
}

// site asks for no error: what is read of bytes that are no site's is a site without groups, which may not be.
func (r *netReader) site() api.Site {
	s, _ := site.Read(r.Piece())
	return s
}

func (r *netReader) sub() api.Sub {
	return api.Sub{Sites: small.List(r.Many(api.MaxSites), r.Number), Critical: r.Number()}
}

func (r *netReader) wed() api.Wed {
	return api.Wed{A: r.Number(), B: r.Number(), Votes: r.Number(), Offsets: small.List(r.Many(api.MaxPlans), r.Number)}
}
