package store

import (
	"bytes"
	"encoding/binary"
	"math"
	"math/rand/v2"
	"slices"
	"testing"

	"stopline/api"
)

const (
	least    = math.MinInt
	greatest = math.MaxInt
	last     = 1<<62 - 1 // the last Gen
	ticks    = 1 << 20
)

// What the chapter says, word by word, and by other means than the package: with the library's own numbers, and with what is kept taken out of a slot's bytes number by number.

func slowPlan(p api.Plan) bool {
	if p.Cycle < 1 || p.Cycle > ticks || p.Offset < 0 || p.Offset >= p.Cycle || len(p.Splits) == 0 || len(p.Splits) > 8 {
		return false
	}
	for _, split := range p.Splits {
		if split < 0 || split > ticks {
			return false
		}
	}
	return true
}

func slowPlans(l []api.Plan) api.Errno {
	if len(l) > 8 {
		return api.ErrMany
	}
	for _, p := range l {
		if !slowPlan(p) {
			return api.ErrPlan
		}
	}
	return api.OK
}

// numbers are small bytes, one number's behind the other's.
func numbers(list ...int) []byte {
	var b []byte
	for _, n := range list {
		b = binary.AppendUvarint(b, uint64(n))
	}
	return b
}

func slowInside(mode uint8, l []api.Plan) []byte {
	list := []int{int(mode), len(l)}
	for _, p := range l {
		list = append(list, p.Cycle, p.Offset, len(p.Splits))
		list = append(list, p.Splits...)
	}
	return numbers(list...)
}

// slowFits tells whether it fits into so many blocks, and what stands in these then.
func slowFits(mode uint8, l []api.Plan, many int) ([]byte, bool) {
	inside := slowInside(mode, l)
	all := append(numbers(len(inside)), inside...)
	for len(all) < 48*many {
		all = append(all, 0)
	}
	return all, len(all) == 48*many
}

// blocksWith are the blocks of a Gen between whose numbers these bytes stand.
func blocksWith(gen uint64, all []byte) [][]byte {
	var list [][]byte
	for at := 0; at < len(all); at += 48 {
		list = append(list, between(gen, all[at:at+48], gen))
	}
	return list
}

// between is a block that begins with one number, and ends with another one.
func between(begin uint64, piece []byte, end uint64) []byte {
	b := binary.LittleEndian.AppendUint64(nil, begin)
	b = append(b, piece...)
	return binary.LittleEndian.AppendUint64(b, end)
}

func slowBlocks(k api.Kept, many int) ([][]byte, api.Errno) {
	if many < 1 || many > 32 {
		return nil, api.ErrArg
	}
	if k.Gen < 1 || k.Gen > last || k.Mode > 3 {
		return nil, api.ErrStore
	}
	if e := slowPlans(k.Plans); e != api.OK {
		return nil, e
	}
	all, fits := slowFits(k.Mode, k.Plans, many)
	if !fits {
		return nil, api.ErrStore
	}
	return blocksWith(uint64(k.Gen), all), api.OK
}

// taker takes numbers off bytes; it is bad for good, once there is none.
type taker struct {
	left []byte
	bad  bool
}

func (x *taker) take() int {
	n, many := binary.Uvarint(x.left)
	if x.bad || many <= 0 || n > math.MaxInt || len(binary.AppendUvarint(nil, n)) != many {
		x.bad = true
		return 0
	}
	x.left = x.left[many:]
	return int(n)
}

// slowKept is what the bytes of a slot keep, and whether it holds.
func slowKept(slot []byte) (api.Kept, bool) {
	var all []byte
	for at := 0; at < len(slot); at += 64 {
		if !bytes.Equal(slot[at:at+8], slot[:8]) || !bytes.Equal(slot[at+56:at+64], slot[:8]) {
			return api.Kept{}, false
		}
		all = append(all, slot[at+8:at+56]...)
	}
	gen := binary.LittleEndian.Uint64(slot)
	x := taker{left: all}
	many := x.take()
	if x.bad || gen < 1 || gen > last || many > len(x.left) {
		return api.Kept{}, false
	}
	for _, b := range x.left[many:] {
		if b != 0 {
			return api.Kept{}, false
		}
	}
	x.left = x.left[:many]
	mode, l := x.take(), x.takePlans()
	if x.bad || len(x.left) > 0 || mode > 3 || slowPlans(l) != api.OK {
		return api.Kept{}, false
	}
	return api.Kept{Gen: int(gen), Mode: uint8(mode), Plans: l}, true
}

func (x *taker) takePlans() []api.Plan {
	var l []api.Plan
	for range min(x.take(), 9) {
		p := api.Plan{Cycle: x.take(), Offset: x.take()}
		for range min(x.take(), 9) {
			p.Splits = append(p.Splits, x.take())
		}
		l = append(l, p)
	}
	return l
}

// slowMany is how many blocks a slot has; the error of a device that has none.
func slowMany(d api.Device) (int, api.Errno) {
	n := len(d.Data)
	if n == 0 || n%64 > 0 || n/64 > 64 {
		return 0, api.ErrBlock
	}
	if n == 64 {
		return 0, api.ErrStore
	}
	return n / 64 / 2, api.OK
}

// slotBytes are the bytes of a device's slot.
func slotBytes(d api.Device, i int) []byte {
	many, _ := slowMany(d)
	return slices.Clone(d.Data[64*many*i:][:64*many])
}

func slowSlot(d api.Device, i int) (api.Kept, api.Errno) {
	if _, e := slowMany(d); e != api.OK {
		return api.Kept{}, e
	}
	if i < 0 || i > 1 {
		return api.Kept{}, api.ErrArg
	}
	k, holds := slowKept(slotBytes(d, i))
	if !holds {
		return api.Kept{}, api.ErrBad
	}
	return k, api.OK
}

// slowCounts is the number of the slot that counts; -1, if none does.
func slowCounts(d api.Device) int {
	a, first := slowKept(slotBytes(d, 0))
	b, second := slowKept(slotBytes(d, 1))
	switch {
	case first && second && b.Gen > a.Gen:
		return 1
	case first:
		return 0
	case second:
		return 1
	}
	return -1
}

func slowRead(d api.Device) (api.Kept, api.Errno) {
	if _, e := slowMany(d); e != api.OK {
		return api.Kept{}, e
	}
	i := slowCounts(d)
	if i < 0 {
		return api.Kept{}, api.ErrStore
	}
	return slowSlot(d, i)
}

// begins and ends are the numbers of a slot's blocks.
func begins(slot []byte) []uint64 {
	var list []uint64
	for at := 0; at < len(slot); at += 64 {
		list = append(list, binary.LittleEndian.Uint64(slot[at:]))
	}
	return list
}

func ends(slot []byte) []uint64 { return begins(slot[56:]) }

// mayGen asks of one number all that P19.3 asks of the new Gen, but that there is none below it.
func mayGen(n, counts uint64, begins, ends []uint64) bool {
	if n > last || n <= counts {
		return false
	}
	for i, end := range ends {
		begin := begins[i]
		if begin < 1<<62 && n <= begin || end < 1<<62 && n <= end || n%256 == end%256 {
			return false
		}
	}
	return true
}

// slowGen is the least number that may be the new Gen; 0, if none is. It is at most 33 behind one that it must be above: each block forbids one in a row of 256.
func slowGen(counts uint64, slot []byte) uint64 {
	begins, ends := begins(slot), ends(slot)
	bounds := slices.Concat(begins, ends, []uint64{counts})
	slices.Sort(bounds)
	gen := uint64(0)
	for _, bound := range slices.Compact(bounds) {
		for more := range uint64(33) {
			if n := bound + 1 + more; n > bound && mayGen(n, counts, begins, ends) && (gen == 0 || n < gen) {
				gen = n
			}
		}
	}
	return gen
}

func slowPut(d api.Device, mode uint8, l []api.Plan) ([]api.Put, api.Errno) {
	many, e := slowMany(d)
	if e != api.OK {
		return nil, e
	}
	if mode > 3 {
		return nil, api.ErrArg
	}
	if e := slowPlans(l); e != api.OK {
		return nil, e
	}
	all, fits := slowFits(mode, l, many)
	if !fits {
		return nil, api.ErrStore
	}
	written, was := 0, uint64(0)
	if i := slowCounts(d); i >= 0 {
		k, _ := slowKept(slotBytes(d, i))
		written, was = 1-i, uint64(k.Gen)
	}
	gen := slowGen(was, slotBytes(d, written))
	if gen == 0 {
		return nil, api.ErrStore
	}
	var puts []api.Put
	for i, b := range blocksWith(gen, all) {
		puts = append(puts, api.Put{N: many*written + i, Data: b})
	}
	return puts, api.OK
}

// slowDo does the writes byte by byte, so far as power lasts.
func slowDo(d api.Device, l []api.Put, whole, torn int) api.Device {
	next := slices.Clone(d.Data)
	for i, p := range l {
		for at, x := range p.Data {
			if i < whole || i == whole && at < torn {
				next[64*p.N+at] = x
			}
		}
	}
	return api.Device{Data: next}
}

func samePlans(a, b []api.Plan) bool {
	return slices.EqualFunc(a, b, func(p, q api.Plan) bool {
		return p.Cycle == q.Cycle && p.Offset == q.Offset && slices.Equal(p.Splits, q.Splits)
	})
}

func sameKept(a, b api.Kept) bool {
	return a.Gen == b.Gen && a.Mode == b.Mode && samePlans(a.Plans, b.Plans)
}

func samePuts(a, b []api.Put) bool {
	return slices.EqualFunc(a, b, func(p, q api.Put) bool { return p.N == q.N && bytes.Equal(p.Data, q.Data) })
}

func sameLists(a, b [][]byte) bool { return slices.EqualFunc(a, b, bytes.Equal) }

// Each of these calls the package, and holds what it tells against the slow reading: with an error nothing is told beside it, as the slow one tells nothing.

func holdBlocks(t *testing.T, k api.Kept, many int) ([][]byte, api.Errno) {
	t.Helper()
	got, e := Blocks(k, many)
	want, f := slowBlocks(k, many)
	if e != f || !sameLists(got, want) {
		t.Fatalf("Blocks of Gen %d, Mode %d, %d plans, many %d: %d, %v; not %d, %v", k.Gen, k.Mode, len(k.Plans), many, e, got, f, want)
	}
	return got, e
}

func holdSlot(t *testing.T, d api.Device, i int) (api.Kept, api.Errno) {
	t.Helper()
	got, e := Slot(d, i)
	want, f := slowSlot(d, i)
	if e != f || !sameKept(got, want) {
		t.Fatalf("Slot %d of %d bytes: %d, %v; not %d, %v", i, len(d.Data), e, got, f, want)
	}
	return got, e
}

func holdRead(t *testing.T, d api.Device) (api.Kept, api.Errno) {
	t.Helper()
	got, e := Read(d)
	want, f := slowRead(d)
	if e != f || !sameKept(got, want) {
		t.Fatalf("Read of %d bytes: %d, %v; not %d, %v", len(d.Data), e, got, f, want)
	}
	return got, e
}

func holdPut(t *testing.T, d api.Device, mode uint8, l []api.Plan) ([]api.Put, api.Errno) {
	t.Helper()
	got, e := Put(d, mode, l)
	want, f := slowPut(d, mode, l)
	if e != f || !samePuts(got, want) {
		t.Fatalf("Put of Mode %d, %d plans on %d bytes: %d, %v; not %d, %v", mode, len(l), len(d.Data), e, got, f, want)
	}
	return got, e
}

// well calls Put with what may be put, and holds it so.
func well(t *testing.T, d api.Device, mode uint8, l []api.Plan) []api.Put {
	t.Helper()
	puts, e := holdPut(t, d, mode, l)
	if e != api.OK {
		t.Fatal("it can't be put", len(d.Data), mode, len(l), e)
	}
	return puts
}

func genOf(puts []api.Put) int { return int(binary.LittleEndian.Uint64(puts[0].Data)) }

func planOf(cycle, offset int, splits ...int) api.Plan {
	return api.Plan{Cycle: cycle, Offset: offset, Splits: splits}
}

// plansOf are the fewest plans whose numbers take so many small bytes, behind the one that tells how many plans there are.
func plansOf(size int) []api.Plan {
	var l []api.Plan
	for many := (size + 30) / 31; many > 0; many-- {
		l = append(l, planOfSize(size/many))
		size -= size / many
	}
	return l
}

// planOfSize is a plan whose numbers take from 4 to 31 small bytes.
func planOfSize(size int) api.Plan {
	fields := min(10, size-1) // with a byte more for how many splits there are
	list := slices.Repeat([]int{5}, fields)
	for i, more := 0, size-1-fields; more > 0; i, more = i+1, more-min(more, 2) {
		list[i] = []int{5, 300, 20000}[min(more, 2)]
	}
	return planOf(list[0], list[1]-1, list[2:]...)
}

// deviceOf is a device out of parts: blocks, or more of them at once.
func deviceOf(parts ...[]byte) api.Device { return api.Device{Data: slices.Concat(parts...)} }

func noughts(blocks int) []byte { return make([]byte, 64*blocks) }

// slotOfKept are the bytes of a slot that keeps this.
func slotOfKept(t *testing.T, gen int, mode uint8, l []api.Plan, many int) []byte {
	t.Helper()
	blocks, e := slowBlocks(api.Kept{Gen: gen, Mode: mode, Plans: l}, many)
	if e != api.OK {
		t.Fatal("it may not be kept", gen, mode, len(l), many)
	}
	return slices.Concat(blocks...)
}

func someBytes(source *rand.Rand, many int) []byte {
	list := make([]byte, many)
	for i := range list {
		list[i] = byte(source.Uint32())
	}
	return list
}

// somePlans are plans that fit into so many blocks.
func somePlans(source *rand.Rand, many int) []api.Plan {
	for {
		var l []api.Plan
		for range source.IntN(9) {
			p := planOf(1+source.IntN(ticks>>source.IntN(21)), 0)
			p.Offset = source.IntN(p.Cycle)
			for range 1 + source.IntN(8) {
				p.Splits = append(p.Splits, source.IntN(1+ticks>>source.IntN(21)))
			}
			l = append(l, p)
		}
		if _, fits := slowFits(0, l, many); fits {
			return l
		}
	}
}

// someNumber is one that is a Gen, or looks like one: near a given one, near 2^62, or any.
func someNumber(source *rand.Rand, near uint64) uint64 {
	switch source.IntN(6) {
	case 0:
		return near
	case 1:
		return near + uint64(source.IntN(40)) - 4
	case 2:
		return 1<<62 + uint64(source.IntN(80)) - 40
	case 3:
		return near ^ 1<<source.IntN(64)
	case 4:
		return source.Uint64() >> source.IntN(64)
	}
	return 0
}
