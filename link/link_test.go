package link

import (
	"slices"
	"testing"

	"stopline/api"
)

func TestGivenNumbers(t *testing.T) {
	if api.MaxTicks != ticks || api.MaxRing != 1024 || api.MaxBody != 512 || api.MaxCounter != 1<<30 || api.MaxPhases != 8 || api.Top != most || api.ModeFlash != 0 || api.ModeMaster != 3 {
		t.Error("limits of package api")
	}
	if api.OK != 0 || api.ErrArg != 2 || api.ErrText != 3 || api.ErrMany != 4 || api.ErrBad != 8 || api.ErrPlan != 170 {
		t.Error("errors of package api")
	}
}

// Every row of the chapter's Examples.
func TestExamples(t *testing.T) {
	l, taken, e := Next(api.Link{}, numbered(5, 7, 6, 7))
	if e != api.OK || !slices.Equal(numbers(taken), []uint32{5, 7}) || l != (api.Link{Any: true, Last: 7, Age: 0}) {
		t.Error(l, taken, e)
	}
	l, taken, e = Next(l, numbered(7))
	if e != api.OK || len(taken) != 0 || l != (api.Link{Any: true, Last: 7, Age: 1}) {
		t.Error(l, taken, e)
	}
	if is, e := Fresh(l, 1); e != api.OK || is {
		t.Error(is, e)
	}
	if is, e := Fresh(l, 2); e != api.OK || !is {
		t.Error(is, e)
	}
	if n, e := Send(7); e != api.OK || n != 8 {
		t.Error(n, e)
	}
	if n, e := Send(lastSeq); e != api.ErrArg || n != 0 {
		t.Error(n, e)
	}
	if b, e := Command(commandOf(3, 300, 0, 200, 100)); e != api.OK || !slices.Equal(b, []byte{3, 172, 2, 0, 2, 200, 1, 100}) {
		t.Error(b, e)
	}
	if c, e := OfCommand(nil); e != api.ErrBad || !sameCommand(c, api.Command{}) {
		t.Error(c, e)
	}
	if b, e := Report(api.Report{Mode: 4}); e != api.ErrArg || len(b) != 0 {
		t.Error(b, e)
	}
	if b, e := Command(api.Command{Cycle: 0}); e != api.ErrPlan || len(b) != 0 {
		t.Error(b, e)
	}
}

func agesAround() []int {
	return []int{least, least + 1, -ticks, -1, 0, 1, 2, 5, ticks - 1, ticks, ticks + 1, 1 << 32, greatest - 1, greatest}
}

// linksAround are links at the edges of what may be, and beyond.
func linksAround() []api.Link {
	var list []api.Link
	for _, age := range agesAround() {
		for _, n := range []uint32{0, 1, 2, 77, 1 << 31, lastSeq - 1, lastSeq} {
			list = append(list, api.Link{Any: true, Last: n, Age: age}, api.Link{Last: n, Age: age})
		}
	}
	return list
}

// seqsAround are numbers of messages at the edges, also of a link's Last: those that would be below 0 or above 2^32 - 1 go round, and are such that may come, too.
func seqsAround(l api.Link) []uint32 {
	return []uint32{0, 1, l.Last - 1, l.Last, l.Last + 1, l.Last ^ 1<<31, lastSeq - 1, lastSeq}
}

// bodied are so many messages whose numbers rise, one of which has a Body of so many bytes.
func bodied(many, at, size int) []api.Message {
	l := make([]api.Message, many)
	for i := range l {
		l[i] = api.Message{Kind: uint8(i), Seq: uint32(i)}
	}
	l[at].Body = make([]byte, size)
	return l
}

// listsAround are lists of messages at the edges of what may come, and beyond.
func listsAround() [][]api.Message {
	lists := [][]api.Message{nil, {}, {{}}, {{Body: []byte{}}}, numbered(0), numbered(0, 0), numbered(lastSeq, lastSeq)}
	for _, many := range []int{1, 2, 3, 1024, 1025, 1026} {
		for _, at := range []int{0, many / 2, many - 1} {
			for _, size := range []int{0, 1, 512, 513, 514} {
				lists = append(lists, bodied(many, at, size))
			}
		}
	}
	return lists
}

// P20.1: Next of every link beside every list of messages: so which error is told where more than one would hold is asked, too.
func TestNextAtTheEdges(t *testing.T) {
	told := map[api.Errno]int{}
	for _, l := range linksAround() {
		for _, got := range listsAround() {
			_, _, e := holdNext(t, l, got)
			told[e]++
		}
	}
	for _, e := range []api.Errno{api.OK, api.ErrBad, api.ErrMany, api.ErrText} {
		if told[e] == 0 {
			t.Error("never told", e)
		}
	}
}

// P20.1: every list of up to three messages with numbers at the edges, of any Kind.
func TestNextOfNumbersAtTheEdges(t *testing.T) {
	for _, l := range linksAround() {
		for _, a := range seqsAround(l) {
			holdNext(t, l, numbered(a))
			for _, b := range seqsAround(l) {
				holdNext(t, l, numbered(a, b))
				for _, c := range seqsAround(l) {
					holdNext(t, l, numbered(a, b, c))
				}
			}
		}
	}
	for kind := range 256 {
		got := []api.Message{{Kind: uint8(kind), Seq: 4, Body: []byte{byte(kind)}}}
		if l, taken, e := Next(api.Link{Any: true, Last: 3, Age: 9}, got); e != api.OK || l != (api.Link{Any: true, Last: 4}) || !sameMessages(taken, got) {
			t.Error(kind, l, taken, e)
		}
		if l, taken, e := Next(api.Link{Any: true, Last: 4, Age: 9}, got); e != api.OK || l != (api.Link{Any: true, Last: 4, Age: 10}) || len(taken) != 0 {
			t.Error(kind, l, taken, e)
		}
	}
}

// P20.1: which error Next tells where more than one would hold; a message that would be dropped must not be too long either.
func TestErrorsOfNext(t *testing.T) {
	good, bad := api.Link{Any: true, Last: lastSeq}, api.Link{Last: 1}
	for i, c := range []struct {
		l    api.Link
		got  []api.Message
		want api.Errno
	}{
		{bad, bodied(1025, 0, 513), api.ErrBad},
		{bad, bodied(1, 0, 513), api.ErrBad},
		{bad, bodied(1025, 0, 0), api.ErrBad},
		{api.Link{Age: -1}, nil, api.ErrBad},
		{api.Link{Any: true, Age: ticks + 1}, nil, api.ErrBad},
		{good, bodied(1025, 0, 513), api.ErrMany},
		{good, bodied(1025, 1024, 0), api.ErrMany},
		{good, make([]api.Message, 1<<17), api.ErrMany},
		{good, bodied(1024, 0, 513), api.ErrText},
		{good, bodied(1024, 1023, 513), api.ErrText},
		{good, bodied(1024, 500, 1<<20), api.ErrText},
		{good, bodied(1024, 1023, 512), api.OK},
		{api.Link{}, bodied(1024, 1023, 512), api.OK},
	} {
		l, taken, e := Next(c.l, c.got)
		if e != c.want || e != api.OK && (l != api.Link{} || taken != nil) {
			t.Error(i, l, len(taken), e)
		}
	}
}

// P20.2: Fresh of every link, watched at the edges, beside its Age too.
func TestFreshAtTheEdges(t *testing.T) {
	told := map[bool]map[api.Errno]int{false: {}, true: {}}
	for _, l := range linksAround() {
		for _, watch := range append(agesAround(), l.Age-1, l.Age, l.Age+1) {
			is, e := holdFresh(t, l, watch)
			told[is][e]++
		}
	}
	if told[true][api.OK] == 0 || told[false][api.OK] == 0 || told[false][api.ErrArg] == 0 || told[false][api.ErrBad] == 0 {
		t.Error(told)
	}
	for i, c := range []struct {
		l     api.Link
		watch int
		is    bool
		want  api.Errno
	}{
		{api.Link{Age: -1}, 0, false, api.ErrBad},
		{api.Link{Last: 1}, ticks + 1, false, api.ErrBad},
		{api.Link{Last: 1}, 1, false, api.ErrBad},
		{api.Link{}, 0, false, api.ErrArg},
		{api.Link{Any: true}, 0, false, api.ErrArg},
		{api.Link{Any: true}, least, false, api.ErrArg},
		{api.Link{Any: true}, ticks + 1, false, api.ErrArg},
		{api.Link{Any: true}, greatest, false, api.ErrArg},
		{api.Link{}, ticks, false, api.OK},
		{api.Link{Any: true}, 1, true, api.OK},
		{api.Link{Any: true, Age: 1}, 1, false, api.OK},
		{api.Link{Any: true, Age: ticks - 1}, ticks, true, api.OK},
		{api.Link{Any: true, Age: ticks}, ticks, false, api.OK},
	} {
		if is, e := Fresh(c.l, c.watch); is != c.is || e != c.want {
			t.Error(i, is, e)
		}
	}
}

// P20.2: Send of each number is one more, up to the last one; what it tells is new to a link.
func TestSend(t *testing.T) {
	for _, n := range []uint32{0, 1, 2, 255, 256, 65535, 1<<31 - 1, 1 << 31, lastSeq - 2, lastSeq - 1} {
		next, e := Send(n)
		if e != api.OK || int(next) != int(n)+1 {
			t.Error(n, next, e)
		}
		if l, taken, e := Next(api.Link{Any: true, Last: n}, numbered(next)); e != api.OK || len(taken) != 1 || l.Last != next {
			t.Error(n, l, taken, e)
		}
	}
	if next, e := Send(lastSeq); e != api.ErrArg || next != 0 {
		t.Error(next, e)
	}
}
