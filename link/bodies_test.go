package link

import (
	"bytes"
	"encoding/binary"
	"math"
	"math/rand/v2"
	"slices"
	"testing"

	"stopline/api"
)

func idsAround() []int {
	return []int{least, least + 3, -65536, -1, 0, 1, 127, 128, 65534, 65535, 65536, 65537, 1 << 32, greatest}
}

// plansAround are commands of site 3 at each bound of a plan that may be at all, and one beyond.
func plansAround() []api.Command {
	list := []api.Command{
		commandOf(3, ticks, ticks-1, slices.Repeat([]int{ticks}, 8)...), commandOf(3, ticks, ticks, 1), commandOf(3, ticks+1, 0, 1),
		commandOf(3, least, least, 1), commandOf(3, least, 5, 1), commandOf(3, greatest, 0, 1), commandOf(3, 1<<32+5, 0, 1),
	}
	for _, cycle := range []int{-1, 0, 1, 2, 300} {
		for _, offset := range []int{least, -2, -1, 0, 1, cycle - 2, cycle - 1, cycle, cycle + 1, greatest} {
			list = append(list, commandOf(3, cycle, offset, 1, 2))
		}
	}
	for _, many := range []int{0, 1, 2, 7, 8, 9, 10, 1 << 16} {
		list = append(list, commandOf(3, 300, 0, make([]int, many)...))
		for _, at := range []int{0, many / 2, many - 1} {
			for _, split := range []int{least, -1, 0, 1, ticks - 1, ticks, ticks + 1, 1<<32 + 1, greatest} {
				if many > 0 {
					splits := slices.Repeat([]int{5}, many)
					splits[at] = split
					list = append(list, commandOf(3, 300, 299, splits...))
				}
			}
		}
	}
	return append(list, api.Command{Site: 3, Cycle: 5}, api.Command{Site: 3, Cycle: 5, Splits: []int{}})
}

// reportsAround are reports of site 3 at each bound, and one beyond.
func reportsAround() []api.Report {
	list := []api.Report{{}, {Loads: []int64{}}}
	for _, mode := range []uint8{0, 1, 2, 3, 4, 5, 127, 128, 254, 255} {
		for _, tick := range []int{least, -1 << 32, -1, 0, 1, ticks + 1, 1<<30 - 1, 1 << 30, 1<<30 + 1, 1 << 32, greatest} {
			for _, many := range []int{0, 8, 9} {
				list = append(list, reportOf(3, mode, tick, make([]int64, many)...))
			}
			list = append(list, reportOf(3, mode, tick, -1), reportOf(3, mode, tick, append(make([]int64, 8), -1)...))
		}
	}
	for _, many := range []int{1, 2, 7, 8, 9, 10, 1 << 16} {
		for _, at := range []int{0, many / 2, many - 1} {
			for _, load := range []int64{math.MinInt64, -most, -1, 0, 1, api.Unit, most - 1, most, most + 1, 1 << 62, math.MaxInt64} {
				loads := slices.Repeat([]int64{5}, many)
				loads[at] = load
				list = append(list, reportOf(3, 2, 9, loads...))
			}
		}
	}
	return list
}

// P20.3: Command and Report of every site beside everything else at the edges: so which error is told where more than one would hold is asked, too. What has bytes is read again as it was.
func TestBodiesAtTheEdges(t *testing.T) {
	told := map[api.Errno]int{}
	for _, id := range idsAround() {
		for _, c := range plansAround() {
			c.Site = id
			b, e := holdCommand(t, c)
			told[e]++
			if e == api.OK {
				again, f := holdOfCommand(t, b)
				if f != api.OK || !sameCommand(again, c) {
					t.Fatal(c, again, f)
				}
			}
		}
		for _, r := range reportsAround() {
			r.Site = id
			b, e := holdReport(t, r)
			told[e]++
			if e == api.OK {
				again, f := holdOfReport(t, b)
				if f != api.OK || !sameReport(again, r) {
					t.Fatal(r, again, f)
				}
			}
		}
	}
	for _, e := range []api.Errno{api.OK, api.ErrArg, api.ErrMany, api.ErrPlan} {
		if told[e] == 0 {
			t.Error("never told", e)
		}
	}
}

// P20.3: bytes by hand, and which error is told where more than one would hold.
func TestBodiesByHand(t *testing.T) {
	for i, c := range []struct {
		c    api.Command
		want []byte
		e    api.Errno
	}{
		{commandOf(0, 1, 0, 0), []byte{0, 1, 0, 1, 0}, api.OK},
		{commandOf(65535, ticks, ticks-1, ticks, 127, 128, 300), []byte{255, 255, 3, 128, 128, 64, 255, 255, 63, 4, 128, 128, 64, 127, 128, 1, 172, 2}, api.OK},
		{commandOf(-1, 0, 0), nil, api.ErrArg},
		{commandOf(65536, 5, 5, 1), nil, api.ErrArg},
		{commandOf(65536, 5, 0, make([]int, 9)...), nil, api.ErrArg},
		{commandOf(65535, 5, 0, make([]int, 9)...), nil, api.ErrPlan},
		{commandOf(65535, 5, 0), nil, api.ErrPlan},
	} {
		if b, e := Command(c.c); e != c.e || !bytes.Equal(b, c.want) {
			t.Error(i, b, e)
		}
	}
	for i, c := range []struct {
		r    api.Report
		want []byte
		e    api.Errno
	}{
		{api.Report{}, []byte{0, 0, 0, 0}, api.OK},
		{reportOf(65535, 3, 1<<30, 0, most, 65536), []byte{255, 255, 3, 3, 128, 128, 128, 128, 4, 3, 0, 128, 128, 128, 128, 128, 128, 16, 128, 128, 4}, api.OK},
		{reportOf(-1, 0, 0, make([]int64, 9)...), nil, api.ErrArg},
		{reportOf(0, 4, 0, make([]int64, 9)...), nil, api.ErrArg},
		{reportOf(0, 0, -1, make([]int64, 9)...), nil, api.ErrArg},
		{reportOf(0, 0, 1<<30+1, make([]int64, 9)...), nil, api.ErrArg},
		{reportOf(0, 0, 0, slices.Repeat([]int64{-1}, 9)...), nil, api.ErrMany},
		{reportOf(0, 0, 0, append(make([]int64, 8), most+1)...), nil, api.ErrMany},
		{reportOf(0, 0, 0, append(make([]int64, 7), most+1)...), nil, api.ErrArg},
	} {
		if b, e := Report(c.r); e != c.e || !bytes.Equal(b, c.want) {
			t.Error(i, b, e)
		}
	}
}

// holdRead holds both readings of bytes against the slow ones. What may be is written as just these bytes again: so no two are read as the same.
func holdRead(t *testing.T, b []byte) (well int) {
	t.Helper()
	if c, e := holdOfCommand(t, b); e == api.OK {
		well++
		if again, f := Command(c); f != api.OK || !bytes.Equal(again, b) {
			t.Fatal("other bytes", b, c, again, f)
		}
	}
	if r, e := holdOfReport(t, b); e == api.OK {
		well++
		if again, f := Report(r); f != api.OK || !bytes.Equal(again, b) {
			t.Fatal("other bytes", b, r, again, f)
		}
	}
	return well
}

// readBad holds that bytes are neither a command's nor a report's.
func readBad(t *testing.T, what string, b []byte) {
	t.Helper()
	if well := holdRead(t, b); well > 0 {
		t.Fatal(what, b)
	}
}

// bodies are the bytes of commands and of reports: the least ones, the greatest ones, and ones between.
func bodies() (commands, reports [][]byte) {
	eight := slices.Repeat([]int{ticks}, 8)
	for _, c := range []api.Command{commandOf(0, 1, 0, 0), commandOf(3, 300, 0, 200, 100), commandOf(65535, ticks, ticks-1, eight...), commandOf(128, 16384, 127, 0, 1, 127, 128, 16383, 16384, 9, 8)} {
		commands = append(commands, varints(commandNumbers(c)...))
	}
	for _, r := range []api.Report{{}, reportOf(7, 2, 300, 65536, 0), reportOf(65535, 3, 1<<30, slices.Repeat([]int64{most}, 8)...), reportOf(128, 1, 16384, 0, 1, 127, 128, 16383, 16384, 1<<35, 1<<42)} {
		reports = append(reports, varints(reportNumbers(r)...))
	}
	return commands, reports
}

// P20.3, P20.5: of bytes each one left out, put in, or turned.
func TestBytesOfBodiesTurned(t *testing.T) {
	commands, reports := bodies()
	well := 0
	for _, b := range slices.Concat(commands, reports) {
		if holdRead(t, b) == 0 {
			t.Fatal("not read", b)
		}
		for i := range len(b) + 1 {
			for x := range 256 {
				well += holdRead(t, slices.Insert(bytes.Clone(b), i, byte(x)))
				if i < len(b) {
					other := bytes.Clone(b)
					other[i] = byte(x)
					well += holdRead(t, other)
				}
			}
			if i < len(b) {
				well += holdRead(t, slices.Delete(bytes.Clone(b), i, i+1))
			}
		}
	}
	if well < 1000 {
		t.Error("too few that may be", well)
	}
}

// P20.3: nothing, noughts, what is cut off, what stands behind or ahead.
func TestBytesThatAreNoBodies(t *testing.T) {
	readBad(t, "nil", nil)
	readBad(t, "empty", []byte{})
	for n := range 40 {
		if n != 4 { // the least report
			readBad(t, "noughts", make([]byte, n))
		}
		readBad(t, "all bits", bytes.Repeat([]byte{255}, n))
		readBad(t, "never the last one", bytes.Repeat([]byte{128}, n))
	}
	readBad(t, "many", make([]byte, api.MaxText+1))
	readBad(t, "many", make([]byte, 1<<20))
	commands, reports := bodies()
	for _, b := range slices.Concat(commands, reports) {
		for k := range b {
			readBad(t, "cut behind", b[:k])
		}
		for x := range 256 {
			readBad(t, "one behind", append(bytes.Clone(b), byte(x)))
		}
		readBad(t, "twice", append(bytes.Clone(b), b...))
		readBad(t, "much behind", append(bytes.Clone(b), make([]byte, 1<<16)...))
	}
}

// with are the bytes of numbers, one of which is put by these bytes.
func with(list []uint64, at int, instead []byte) []byte {
	return slices.Concat(varints(list[:at]...), instead, varints(list[at+1:]...))
}

// longer are a number's bytes with noughts behind: more than it wants.
func longer(n uint64, more int) []byte {
	b := varints(n)
	b[len(b)-1] |= 128
	return append(append(b, bytes.Repeat([]byte{128}, more-1)...), 0)
}

// commandBound and reportBound are the greatest number that may stand at a place, with all else as it is.
func commandBound(list []uint64, at int) uint64 {
	switch at {
	case 0:
		return 65535
	case 2:
		return list[1] - 1
	case 3:
		return uint64(len(list) - 4)
	}
	return ticks
}

func reportBound(list []uint64, at int) uint64 {
	switch at {
	case 0, 1, 2:
		return []uint64{65535, 3, 1 << 30}[at]
	case 3:
		return uint64(len(list) - 4)
	}
	return most
}

// holdNumbers asks, of each number of some bytes: one in more bytes than it wants, one that no uint64 holds, and one that is beyond its bound, just or far, or that only its lowest bits bring within it, each with all else right; and the one at its bound.
func holdNumbers(t *testing.T, b []byte, bound func([]uint64, int) uint64, read func(*testing.T, []byte) api.Errno) {
	t.Helper()
	ints, _ := slowNumbers(b)
	var list []uint64
	for _, n := range ints {
		list = append(list, uint64(n))
	}
	for at, n := range list {
		bad := [][]byte{append(bytes.Repeat([]byte{255}, 9), 2), append(bytes.Repeat([]byte{128}, 10), 1)}
		for more := range 9 {
			bad = append(bad, longer(n, more+1))
		}
		high := bound(list, at)
		for _, beyond := range []uint64{high + 1, high + 2, high + 256, n + 256, n + 1<<31, n + 1<<32, n + 1<<47, n + 1<<62, n + 1<<63, 1<<63 - 1, 1 << 63, 1<<64 - 1 - n, 1<<64 - 1} {
			if beyond > high {
				bad = append(bad, varints(beyond))
			}
		}
		for _, x := range bad {
			if e := read(t, with(list, at, x)); e != api.ErrBad {
				t.Fatal("a number that may not be", b, at, x, e)
			}
		}
		if e := read(t, with(list, at, varints(high))); e != api.OK {
			t.Fatal("a number at its bound", b, at, high, e)
		}
	}
}

// P20.3: numbers of one part that may not be.
func TestNumbersOfBodiesThatMayNotBe(t *testing.T) {
	commands, reports := bodies()
	for _, b := range commands {
		holdNumbers(t, b, commandBound, func(t *testing.T, b []byte) api.Errno {
			_, e := holdOfCommand(t, b)
			return e
		})
	}
	for _, b := range reports {
		holdNumbers(t, b, reportBound, func(t *testing.T, b []byte) api.Errno {
			_, e := holdOfReport(t, b)
			return e
		})
	}
}

// P20.3: a plan that may not be at all, and how many there may be of splits and of loads.
func TestPlansOfBodiesThatMayNotBe(t *testing.T) {
	for i, c := range []struct {
		told []byte
		want api.Errno
	}{
		{[]byte{3, 0, 0, 1, 1}, api.ErrBad},
		{[]byte{3, 1, 0, 1, 1}, api.OK},
		{[]byte{3, 5, 4, 1, 1}, api.OK},
		{[]byte{3, 5, 5, 1, 1}, api.ErrBad},
		{[]byte{3, 5, 0, 0}, api.ErrBad},
		{[]byte{3, 5, 0, 0, 1}, api.ErrBad},
		{[]byte{3, 5, 0, 2, 1}, api.ErrBad},
		{[]byte{3, 5, 0, 1, 1, 1}, api.ErrBad},
	} {
		if _, e := holdOfCommand(t, c.told); e != c.want {
			t.Error(i, e)
		}
	}
	for many := range 20 {
		told := append([]byte{9, 1, 0, byte(many)}, make([]byte, many)...)
		if _, e := holdOfCommand(t, told); (e == api.OK) != (1 <= many && many <= 8) {
			t.Error(many, e)
		}
		if _, e := holdOfReport(t, told); (e == api.OK) != (many <= 8) {
			t.Error(many, e)
		}
	}
}

// P20.3: every short list of bytes out of few, and long ones of numbers that are near what may be.
func TestOtherBytesOfBodies(t *testing.T) {
	letters := []byte{0, 1, 2, 3, 4, 8, 127, 128, 255}
	well := 0
	var try func(b []byte, more int)
	try = func(b []byte, more int) {
		well += holdRead(t, b)
		if more == 0 {
			return
		}
		for _, x := range letters {
			try(append(slices.Clip(b), x), more-1)
		}
	}
	try(nil, 5)
	if well < 1000 {
		t.Error("too few that may be", well)
	}
	source := rand.New(rand.NewPCG(20, 1))
	well = 0
	for range 30000 {
		var b []byte
		for _, n := range []uint64{3, 8, 8} {
			b = binary.AppendUvarint(b, source.Uint64N(n+2))
		}
		many := source.Uint64N(10)
		b = binary.AppendUvarint(b, many)
		for range int(many) + source.IntN(10)/8 - source.IntN(10)/9 {
			b = binary.AppendUvarint(b, source.Uint64()>>source.IntN(64))
		}
		well += holdRead(t, b)
	}
	if well < 1000 {
		t.Error("too few that may be", well)
	}
}

// P20.5, W7: read of what is written is it, and is no other one's bytes.
func TestThereAndBack(t *testing.T) {
	source := rand.New(rand.NewPCG(20, 2))
	for range 20000 {
		c, r := someCommand(source), someReport(source)
		b, e := holdCommand(t, c)
		if again, f := holdOfCommand(t, b); e != api.OK || f != api.OK || !sameCommand(again, c) {
			t.Fatal(c, b, again, e, f)
		}
		b, e = holdReport(t, r)
		if again, f := holdOfReport(t, b); e != api.OK || f != api.OK || !sameReport(again, r) {
			t.Fatal(r, b, again, e, f)
		}
	}
}
