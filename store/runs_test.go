package store

import (
	"encoding/binary"
	"math/rand/v2"
	"slices"
	"testing"

	"stopline/api"
	"stopline/block"
)

// told is all that Read tells of a device.
type told struct {
	kept api.Kept
	e    api.Errno
}

func read(d api.Device) told {
	k, e := Read(d)
	return told{k, e}
}

func (a told) is(b told) bool { return a.e == b.e && sameKept(a.kept, b.kept) }

// broken is the device behind writes that are broken off.
func broken(t *testing.T, d api.Device, l []api.Put, whole, torn int) api.Device {
	t.Helper()
	next, e := block.Do(d, l, whole, torn)
	if e != api.OK {
		t.Fatal("writes that may not be", e, len(d.Data), l, whole, torn)
	}
	return next
}

// holdBroken puts something, and holds what Read tells, wherever the writes are broken off: what it told ahead, or just what was put; behind all writes just that. It tells how often it was the new one before the last byte was written.
func holdBroken(t *testing.T, d api.Device, mode uint8, l []api.Plan) int {
	t.Helper()
	puts := well(t, d, mode, l)
	was, want := read(d), told{api.Kept{Gen: genOf(puts), Mode: mode, Plans: l}, api.OK}
	if was.e == api.OK && was.kept.Gen >= want.kept.Gen {
		t.Fatal("not above", was, want)
	}
	early := 0
	for whole := range len(puts) + 1 {
		for torn := range 65 {
			is := read(broken(t, d, puts, whole, torn))
			all := whole == len(puts) || whole == len(puts)-1 && torn == 64
			switch {
			case is.is(want) && !all:
				early++
			case !is.is(want) && (all || !is.is(was)):
				t.Fatalf("%d bytes, whole %d of %d, torn %d: %v; it was %v, and is to be %v", len(d.Data), whole, len(puts), torn, is, was, want)
			}
		}
	}
	// The number of a new Gen that stands at the end may be there, but for its lowest byte, already: but never the lowest one.
	if early > 7 {
		t.Fatal("new ahead of the last number", early)
	}
	return early
}

// holdUnwritten tells whether no write reaches the slot that counts, nor the odd block.
func holdUnwritten(t *testing.T, d api.Device, puts []api.Put) {
	t.Helper()
	many, _ := slowMany(d)
	counts := slowCounts(d)
	for i, p := range puts {
		if len(puts) != many || p.N/many == counts || p.N/many > 1 || p.N%many != i {
			t.Fatal(len(d.Data), counts, i, p.N)
		}
	}
}

// P19.5, W6: on formatted devices, and on such as keep something, of two, three, four and more blocks.
func TestBrokenPuts(t *testing.T) {
	source := rand.New(rand.NewPCG(19, 20))
	for _, n := range []int{2, 3, 4, 5, 6, 9, 12, 64} {
		d := formatted(t, n)
		for range max(4, 24/n) {
			mode, l := uint8(source.IntN(4)), somePlans(source, n/2)
			holdBroken(t, d, mode, l)
			puts := well(t, d, mode, l)
			holdUnwritten(t, d, puts)
			d = broken(t, d, puts, len(puts), 0)
		}
	}
}

// P19.5: what is put may be what is kept already, or differ from what stands in the slot in a byte alone.
func TestBrokenPutsOfTheSame(t *testing.T) {
	l := plansOf(30)
	other := slices.Clone(l)
	other[0].Cycle++
	for _, n := range []int{2, 3, 4, 6} {
		d := formatted(t, n)
		for i := range 300 {
			next := l
			if i%7 == 3 {
				next = other
			}
			if i%50 < 8 || i > 250 && i < 260 {
				holdBroken(t, d, 2, next)
			}
			puts := well(t, d, 2, next)
			d = broken(t, d, puts, len(puts), 0)
		}
	}
}

// anyBlock has numbers near the Gen that counts, or each begin or end like another one's, and between them any bytes, or those that will be put.
func anyBlock(source *rand.Rand, near uint64, others, pieces [][]byte) []byte {
	begin, end := someNumber(source, near), someNumber(source, near)
	if len(others) > 0 && source.IntN(3) == 0 {
		begin = binary.LittleEndian.Uint64(others[source.IntN(len(others))])
	}
	if source.IntN(3) == 0 {
		end = begin
	}
	piece := someBytes(source, 48)
	if source.IntN(3) > 0 {
		piece = pieces[source.IntN(len(pieces))]
	}
	return between(begin, piece, end)
}

// anyDevice is a device of any bytes at all; what will be put stands in some of its blocks, and something may be kept.
func anyDevice(source *rand.Rand, n int, mode uint8, l []api.Plan) api.Device {
	many := n / 2
	all, _ := slowFits(mode, l, many)
	pieces := slices.Collect(slices.Chunk(all, 48))
	near := []uint64{1, 2, 250, 1 << 16, 1<<40 + 255, last - 400}[source.IntN(6)] + uint64(source.IntN(4))
	var blocks [][]byte
	for range n {
		blocks = append(blocks, anyBlock(source, near, blocks, pieces))
	}
	if source.IntN(3) > 0 {
		kept, _ := slowFits(uint8(source.IntN(4)), somePlans(source, many), many)
		copy(blocks[source.IntN(2)*many:], blocksWith(near, kept))
	}
	return deviceOf(blocks...)
}

// P19.5: so it is of any device: on such as agree by chance with numbers at blocks' beginnings and ends, and with what will be put.
func TestBrokenPutsOnAnyDevice(t *testing.T) {
	source := rand.New(rand.NewPCG(19, 21))
	done, early := 0, 0
	for range 1000 {
		n := 2 + source.IntN(5)
		mode, l := uint8(source.IntN(4)), somePlans(source, n/2)
		d := anyDevice(source, n, mode, l)
		holdRead(t, d)
		if puts, e := holdPut(t, d, mode, l); e == api.OK {
			holdUnwritten(t, d, puts)
			early += holdBroken(t, d, mode, l)
			done++
		}
	}
	if done < 600 || early < 1000 {
		t.Error(done, early)
	}
}

// P19.5: a slot of one block, which has what will be put already, and begins and ends with each pair of numbers near the new Gen, and with such as have some of its bytes.
func TestBrokenPutsOnEachPair(t *testing.T) {
	l := plansOf(12)
	all, _ := slowFits(2, l, 1)
	for _, counts := range []int{0, 6, 1<<24 - 2} {
		first := noughts(1)
		if counts > 0 {
			first = slotOfKept(t, counts, 1, nil, 1)
		}
		gen := uint64(counts + 1)
		list := []uint64{gen - 1, gen, gen + 1, gen + 2, gen + 256, gen + 255, gen | 1<<62, gen + 1 | 1<<62, gen | 1<<63, gen + 1 | 1<<48, 0, 1<<64 - 1}
		for _, begin := range list {
			for _, end := range list {
				d := deviceOf(first, between(begin, all, end))
				if counts == 0 {
					d = deviceOf(between(begin, all, end), first)
				}
				holdBroken(t, d, 2, l)
			}
		}
	}
}

// P19.5: devices of bytes without any sense.
func TestBrokenPutsOnBytes(t *testing.T) {
	source := rand.New(rand.NewPCG(19, 22))
	for i := range 200 {
		n := 2 + i%7
		d := deviceOf(someBytes(source, 64*n))
		if i%5 == 0 {
			d = deviceOf(slices.Repeat([]byte{byte(i)}, 64*n))
		}
		holdRead(t, d)
		mode, l := uint8(source.IntN(4)), somePlans(source, n/2)
		if _, e := holdPut(t, d, mode, l); e == api.OK {
			holdBroken(t, d, mode, l)
		}
	}
}

// P19.5: a second Put behind a broken one, itself broken off anywhere: what Read tells is what it told ahead of it, or just what was put.
func TestPutBehindABrokenOne(t *testing.T) {
	source := rand.New(rand.NewPCG(19, 23))
	for _, n := range []int{2, 3, 4, 6} {
		d := formatted(t, n)
		for i := range 3 {
			first, second := somePlans(source, n/2), somePlans(source, n/2)
			if i == 2 {
				second = first
			}
			puts := well(t, d, 1, first)
			for whole := range len(puts) + 1 {
				for torn := range 65 {
					if n > 3 && torn > 9 && torn < 55 && torn%8 > 0 {
						continue
					}
					holdBroken(t, broken(t, d, puts, whole, torn), 2, second)
				}
			}
			d = broken(t, d, puts, len(puts), 0)
		}
	}
}

// P19.5: puts that are broken off again and again, on one device: ever what was told ahead, or what was put; and what is put whole at last is read.
func TestManyBrokenPuts(t *testing.T) {
	source := rand.New(rand.NewPCG(19, 24))
	for round := range 150 {
		n := 2 + round%8
		d := formatted(t, n)
		if round%3 == 0 {
			d = anyDevice(source, n, 1, nil)
		}
		is := read(d)
		for range 60 {
			mode, l := uint8(source.IntN(4)), somePlans(source, n/2)
			puts, e := holdPut(t, d, mode, l)
			if e != api.OK {
				break
			}
			holdUnwritten(t, d, puts)
			whole, torn := source.IntN(len(puts)+1), []int{source.IntN(65), source.IntN(10), 55 + source.IntN(10)}[source.IntN(3)]
			d = broken(t, d, puts, whole, torn)
			was, put := is, told{api.Kept{Gen: genOf(puts), Mode: mode, Plans: l}, api.OK}
			is = read(d)
			if !is.is(put) && (!is.is(was) || whole == len(puts)) {
				t.Fatal(n, whole, torn, is, was, put)
			}
			holdRead(t, d)
		}
	}
}

// W7: what is kept is read again as it was, out of either slot, whatever stands in the other one.
func TestKeptIsReadAgain(t *testing.T) {
	source := rand.New(rand.NewPCG(19, 25))
	for i := range 1000 {
		n := 2 + i%9
		mode, l := uint8(source.IntN(4)), somePlans(source, n/2)
		d := anyDevice(source, n, mode, l)
		puts, e := holdPut(t, d, mode, l)
		if e != api.OK {
			continue
		}
		want := api.Kept{Gen: genOf(puts), Mode: mode, Plans: l}
		d = broken(t, d, puts, len(puts), 0)
		if k, e := holdRead(t, d); e != api.OK || !sameKept(k, want) {
			t.Fatal(n, k, e, want)
		}
		if k, e := holdSlot(t, d, puts[0].N/(n/2)); e != api.OK || !sameKept(k, want) {
			t.Fatal(n, k, e, want)
		}
	}
}

// P19.5, W6: nothing but the writes changes what is kept: behind a Put that has an error it is as it was.
func TestPutThatIsRefused(t *testing.T) {
	d := deviceOf(slotOfKept(t, 7, 2, plansOf(30), 1), noughts(1))
	for _, c := range []struct {
		mode uint8
		l    []api.Plan
	}{{4, nil}, {1, make([]api.Plan, 1)}, {1, make([]api.Plan, 9)}, {1, plansOf(46)}} {
		if puts, e := holdPut(t, d, c.mode, c.l); e == api.OK {
			t.Error(c, puts)
		}
		if k, e := Read(d); e != api.OK || !sameKept(k, api.Kept{Gen: 7, Mode: 2, Plans: plansOf(30)}) {
			t.Error(c, k, e)
		}
	}
}
