package link

import (
	"bytes"
	"encoding/binary"
	"math"
	"math/rand/v2"
	"slices"
	"testing"

	"stopline/api"
)

const (
	least    = math.MinInt
	greatest = math.MaxInt
	ticks    = 1 << 20
	lastSeq  = 1<<32 - 1
	most     = 1 << 46 // the greatest fixed number
)

// What the chapter says, word by word, and by other means than the package: with the library's own numbers, and with a message held against all that came ahead of it.

func slowLink(l api.Link) bool {
	if l.Age < 0 || l.Age > ticks {
		return false
	}
	return l.Any || l.Last == 0
}

// slowNext goes by the greatest number that came: -1, if none did. What is dropped is never above it, so it counts for nothing.
func slowNext(l api.Link, got []api.Message) (api.Link, []api.Message, api.Errno) {
	if !slowLink(l) {
		return api.Link{}, nil, api.ErrBad
	}
	if len(got) >= 1025 {
		return api.Link{}, nil, api.ErrMany
	}
	if slices.ContainsFunc(got, func(m api.Message) bool { return len(m.Body) >= 513 }) {
		return api.Link{}, nil, api.ErrText
	}
	came := []int{-1}
	if l.Any {
		came[0] = int(l.Last)
	}
	var taken []api.Message
	for _, m := range got {
		if int(m.Seq) > slices.Max(came) {
			taken = append(taken, m)
		}
		came = append(came, int(m.Seq))
	}
	switch {
	case len(taken) > 0:
		return api.Link{Any: true, Last: taken[len(taken)-1].Seq}, taken, api.OK
	case l.Age < ticks:
		l.Age++
	}
	return l, nil, api.OK
}

func slowFresh(l api.Link, watch int) (bool, api.Errno) {
	switch {
	case !slowLink(l):
		return false, api.ErrBad
	case watch < 1 || watch > ticks:
		return false, api.ErrArg
	case !l.Any:
		return false, api.OK
	}
	return watch > l.Age, api.OK
}

func slowPlan(c api.Command) bool {
	if c.Cycle < 1 || c.Cycle > ticks || c.Offset < 0 || c.Offset >= c.Cycle || len(c.Splits) == 0 || len(c.Splits) > 8 {
		return false
	}
	return !slices.ContainsFunc(c.Splits, func(n int) bool { return n < 0 || n > ticks })
}

func slowCommand(c api.Command) ([]byte, api.Errno) {
	if c.Site < 0 || c.Site > 65535 {
		return nil, api.ErrArg
	}
	if !slowPlan(c) {
		return nil, api.ErrPlan
	}
	return varints(commandNumbers(c)...), api.OK
}

func slowReport(r api.Report) ([]byte, api.Errno) {
	switch {
	case r.Site < 0 || r.Site > 65535, r.Mode > 3, r.Tick < 0 || r.Tick > 1<<30:
		return nil, api.ErrArg
	case len(r.Loads) > 8:
		return nil, api.ErrMany
	case slices.ContainsFunc(r.Loads, func(n int64) bool { return n < 0 || n > most }):
		return nil, api.ErrArg
	}
	return varints(reportNumbers(r)...), api.OK
}

func varints(list ...uint64) []byte {
	var b []byte
	for _, n := range list {
		b = binary.AppendUvarint(b, n)
	}
	return b
}

func commandNumbers(c api.Command) []uint64 {
	list := []uint64{uint64(c.Site), uint64(c.Cycle), uint64(c.Offset), uint64(len(c.Splits))}
	for _, n := range c.Splits {
		list = append(list, uint64(n))
	}
	return list
}

func reportNumbers(r api.Report) []uint64 {
	list := []uint64{uint64(r.Site), uint64(r.Mode), uint64(r.Tick), uint64(len(r.Loads))}
	for _, n := range r.Loads {
		list = append(list, uint64(n))
	}
	return list
}

// slowNumbers are all numbers of bytes, each in its fewest small bytes; how many are told by the fourth one. Each is below 2^63, as none that may be is above.
func slowNumbers(b []byte) ([]int, bool) {
	var list []int
	for len(b) > 0 {
		n, many := binary.Uvarint(b)
		if many <= 0 || n >= 1<<63 || !bytes.Equal(varints(n), b[:many]) {
			return nil, false
		}
		list, b = append(list, int(n)), b[many:]
	}
	return list, len(list) >= 4 && list[3] == len(list)-4
}

func slowOfCommand(b []byte) (api.Command, api.Errno) {
	list, well := slowNumbers(b)
	if !well {
		return api.Command{}, api.ErrBad
	}
	c := api.Command{Site: list[0], Cycle: list[1], Offset: list[2], Splits: list[4:]}
	if _, e := slowCommand(c); e != api.OK {
		return api.Command{}, api.ErrBad
	}
	return c, api.OK
}

func slowOfReport(b []byte) (api.Report, api.Errno) {
	list, well := slowNumbers(b)
	if !well || list[1] > 255 {
		return api.Report{}, api.ErrBad
	}
	r := api.Report{Site: list[0], Mode: uint8(list[1]), Tick: list[2]}
	for _, n := range list[4:] {
		r.Loads = append(r.Loads, int64(n))
	}
	if _, e := slowReport(r); e != api.OK {
		return api.Report{}, api.ErrBad
	}
	return r, api.OK
}

func sameMessages(a, b []api.Message) bool {
	return slices.EqualFunc(a, b, func(m, n api.Message) bool {
		return m.Kind == n.Kind && m.Seq == n.Seq && bytes.Equal(m.Body, n.Body)
	})
}

func sameCommand(a, b api.Command) bool {
	return a.Site == b.Site && a.Cycle == b.Cycle && a.Offset == b.Offset && slices.Equal(a.Splits, b.Splits)
}

func sameReport(a, b api.Report) bool {
	return a.Site == b.Site && a.Mode == b.Mode && a.Tick == b.Tick && slices.Equal(a.Loads, b.Loads)
}

// Each of these calls the package, and holds what it tells against the slow reading: with an error nothing is told beside it, as the slow one tells nothing.

func holdNext(t *testing.T, l api.Link, got []api.Message) (api.Link, []api.Message, api.Errno) {
	t.Helper()
	next, taken, e := Next(l, got)
	want, list, f := slowNext(l, got)
	if e != f || next != want || !sameMessages(taken, list) {
		t.Fatalf("Next of %v and %d messages: %d, %v, %v; not %d, %v, %v", l, len(got), e, next, taken, f, want, list)
	}
	return next, taken, e
}

func holdFresh(t *testing.T, l api.Link, watch int) (bool, api.Errno) {
	t.Helper()
	is, e := Fresh(l, watch)
	want, f := slowFresh(l, watch)
	if e != f || is != want {
		t.Fatalf("Fresh of %v by %d: %d, %v; not %d, %v", l, watch, e, is, f, want)
	}
	return is, e
}

func holdCommand(t *testing.T, c api.Command) ([]byte, api.Errno) {
	t.Helper()
	b, e := Command(c)
	want, f := slowCommand(c)
	if e != f || !bytes.Equal(b, want) {
		t.Fatalf("Command of %v: %d, %v; not %d, %v", c, e, b, f, want)
	}
	return b, e
}

func holdReport(t *testing.T, r api.Report) ([]byte, api.Errno) {
	t.Helper()
	b, e := Report(r)
	want, f := slowReport(r)
	if e != f || !bytes.Equal(b, want) {
		t.Fatalf("Report of %v: %d, %v; not %d, %v", r, e, b, f, want)
	}
	return b, e
}

func holdOfCommand(t *testing.T, b []byte) (api.Command, api.Errno) {
	t.Helper()
	c, e := OfCommand(b)
	want, f := slowOfCommand(b)
	if e != f || !sameCommand(c, want) {
		t.Fatalf("OfCommand of %v: %d, %v; not %d, %v", b, e, c, f, want)
	}
	return c, e
}

func holdOfReport(t *testing.T, b []byte) (api.Report, api.Errno) {
	t.Helper()
	r, e := OfReport(b)
	want, f := slowOfReport(b)
	if e != f || !sameReport(r, want) {
		t.Fatalf("OfReport of %v: %d, %v; not %d, %v", b, e, r, f, want)
	}
	return r, e
}

// numbered are messages with these numbers, each of another Kind and with another Body.
func numbered(list ...uint32) []api.Message {
	var l []api.Message
	for i, n := range list {
		l = append(l, api.Message{Kind: uint8(7 * i), Seq: n, Body: bytes.Repeat([]byte{byte(i), byte(n)}, i%5)})
	}
	return l
}

// numbers are the numbers of messages.
func numbers(l []api.Message) []uint32 {
	var list []uint32
	for _, m := range l {
		list = append(list, m.Seq)
	}
	return list
}

func commandOf(id, cycle, offset int, splits ...int) api.Command {
	return api.Command{Site: id, Cycle: cycle, Offset: offset, Splits: splits}
}

func reportOf(id int, mode uint8, tick int, loads ...int64) api.Report {
	return api.Report{Site: id, Mode: mode, Tick: tick, Loads: loads}
}

func someCommand(source *rand.Rand) api.Command {
	c := commandOf(source.IntN(65536>>source.IntN(17)), 1+source.IntN(ticks>>source.IntN(21)), 0)
	c.Offset = source.IntN(c.Cycle)
	for range 1 + source.IntN(8) {
		c.Splits = append(c.Splits, source.IntN(1+ticks>>source.IntN(21)))
	}
	return c
}

func someReport(source *rand.Rand) api.Report {
	r := reportOf(source.IntN(65536>>source.IntN(17)), uint8(source.IntN(4)), source.IntN(1+1<<30>>source.IntN(31)))
	for range source.IntN(9) {
		r.Loads = append(r.Loads, source.Int64N(1+most>>source.IntN(47)))
	}
	return r
}
