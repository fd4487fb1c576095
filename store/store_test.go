package store

import (
	"bytes"
	"math/rand/v2"
	"slices"
	"testing"

	"stopline/api"
)

// The numbers that the document gives, and the plans of the tests.
func TestGivenNumbers(t *testing.T) {
	if api.Block != 64 || api.MaxBlocks != 64 || api.MaxPlans != 8 || api.MaxPhases != 8 || api.MaxTicks != ticks || api.ModeFlash != 0 || api.ModeMaster != 3 {
		t.Error("limits of package api")
	}
	if api.OK != 0 || api.ErrArg != 2 || api.ErrMany != 4 || api.ErrBad != 8 || api.ErrPlan != 170 || api.ErrBlock != 180 || api.ErrStore != 190 {
		t.Error("errors of package api")
	}
	for size := 4; size <= 248; size++ {
		l := plansOf(size)
		if slowPlans(l) != api.OK || len(slowInside(0, l)) != 2+size {
			t.Fatal(size, l)
		}
	}
}

func formatted(t *testing.T, n int) api.Device {
	t.Helper()
	d, e := Format(n)
	if e != api.OK {
		t.Fatal(n, e)
	}
	return d
}

// Every row of the chapter's Examples.
func TestExamples(t *testing.T) {
	d := formatted(t, 4)
	if k, e := Read(d); e != api.ErrStore || !sameKept(k, api.Kept{}) {
		t.Error(k, e)
	}
	if d, e := Format(1); e != api.ErrStore || len(d.Data) != 0 {
		t.Error(d, e)
	}
	if d, e := Format(65); e != api.ErrBlock || len(d.Data) != 0 {
		t.Error(d, e)
	}
	p := []api.Plan{planOf(5, 0, 5)}
	puts, e := Put(d, api.ModeStored, p)
	first, second := make([]byte, 64), make([]byte, 64)
	copy(first, []byte{1, 0, 0, 0, 0, 0, 0, 0, 6, 2, 1, 5, 0, 1, 5})
	first[56], second[0], second[56] = 1, 1, 1
	if e != api.OK || !samePuts(puts, []api.Put{{N: 0, Data: first}, {N: 1, Data: second}}) {
		t.Fatal(puts, e)
	}
	d = slowDo(d, puts, 2, 0)
	kept := api.Kept{Gen: 1, Mode: api.ModeStored, Plans: p}
	if k, e := Read(d); e != api.OK || !sameKept(k, kept) {
		t.Error(k, e)
	}
	puts, e = Put(d, api.ModeStored, p)
	if e != api.OK || len(puts) != 2 || puts[0].N != 2 || puts[1].N != 3 || genOf(puts) != 2 {
		t.Fatal(puts, e)
	}
	if k, e := Read(slowDo(d, puts, 1, 56)); e != api.OK || !sameKept(k, kept) {
		t.Error("torn at 56", k, e)
	}
	kept.Gen = 2
	if k, e := Read(slowDo(d, puts, 1, 57)); e != api.OK || !sameKept(k, kept) {
		t.Error("torn at 57", k, e)
	}
	if l, e := Put(d, 4, nil); e != api.ErrArg || len(l) != 0 {
		t.Error(l, e)
	}
	if l, e := Put(d, 0, make([]api.Plan, 1)); e != api.ErrPlan || len(l) != 0 {
		t.Error(l, e)
	}
}

// P19.1: Blocks by hand, of plans that take one byte more than a block has room for beside its numbers.
func TestBlocksByHand(t *testing.T) {
	k := api.Kept{Gen: 1<<56 + 258, Mode: 3, Plans: []api.Plan{planOf(300, 299, 0, 1, 127, 128, 16384, ticks, 7, 8), planOf(5, 4, slices.Repeat([]int{300}, 7)...), planOf(9, 8, 1, 2, 3, 4, 5)}}
	number := []byte{2, 1, 0, 0, 0, 0, 0, 1}
	piece := []byte{48, 3, 3, 172, 2, 171, 2, 8, 0, 1, 127, 128, 1, 128, 128, 1, 128, 128, 64, 7, 8, 5, 4, 7, 172, 2, 172, 2, 172, 2, 172, 2, 172, 2, 172, 2, 172, 2, 9, 8, 5, 1, 2, 3, 4, 5}
	piece[0] = byte(len(piece) - 1)
	rest := make([]byte, 96-len(piece))
	want := [][]byte{slices.Concat(number, append(piece, rest...)[:48], number), slices.Concat(number, append(piece, rest...)[48:], number)}
	got, e := Blocks(k, 2)
	if e != api.OK || !sameLists(got, want) {
		t.Error(got, e, want)
	}
	if got, e := Blocks(api.Kept{Gen: 1}, 1); e != api.OK || len(got) != 1 || !bytes.Equal(got[0][:12], []byte{1, 0, 0, 0, 0, 0, 0, 0, 2, 0, 0, 0}) || !bytes.Equal(got[0][12:], append(make([]byte, 44), 1, 0, 0, 0, 0, 0, 0, 0)) {
		t.Error(got, e)
	}
}

func manyAround() []int {
	return []int{least, least + 1, -32, -1, 0, 1, 2, 3, 31, 32, 33, 34, 64, 65, 1 << 32, greatest - 1, greatest}
}

func gensAround() []int {
	return []int{least, least + 1, -1 << 62, -1, 0, 1, 2, 255, 256, 257, 1 << 32, 1<<56 - 1, 1 << 61, last - 1, last, last + 1, last + 2, last + 257, greatest - 1, greatest}
}

// modesAround are such that may be, and, from 4 on, such that may not.
func modesAround() []uint8 { return []uint8{0, 1, 2, 3, 4, 5, 127, 128, 254, 255} }

// plansAround are lists of plans at the edges of what may be; those from the fourth last on may not.
func plansAround() [][]api.Plan {
	good := planOf(5, 0, 5)
	great := planOf(ticks, ticks-1, slices.Repeat([]int{ticks}, 8)...)
	return [][]api.Plan{
		nil, {}, {good}, {great}, {planOf(1, 0, 0)}, slices.Repeat([]api.Plan{good}, 8), slices.Repeat([]api.Plan{great}, 8),
		slices.Repeat([]api.Plan{good}, 9), slices.Repeat([]api.Plan{{}}, 9), {{}}, {good, planOf(5, 5, 5)},
	}
}

// P19.1: Blocks at the edges of each argument, all against all: so which error is told where two would hold is asked, too.
func TestBlocksAtTheEdges(t *testing.T) {
	told := map[api.Errno]int{}
	for _, many := range manyAround() {
		for _, gen := range gensAround() {
			for _, mode := range modesAround() {
				for _, l := range plansAround() {
					_, e := holdBlocks(t, api.Kept{Gen: gen, Mode: mode, Plans: l}, many)
					told[e]++
				}
			}
		}
	}
	for _, e := range []api.Errno{api.OK, api.ErrArg, api.ErrStore, api.ErrMany, api.ErrPlan} {
		if told[e] == 0 {
			t.Error("never told", e)
		}
	}
}

// P19.1: which error Blocks tells where more than one would hold.
func TestErrorsOfBlocks(t *testing.T) {
	good, bad := []api.Plan{planOf(5, 0, 5)}, []api.Plan{planOf(0, 0, 5)}
	tooMany := append(slices.Repeat(good, 8), bad...)
	long := plansOf(248)
	for i, c := range []struct {
		gen  int
		mode uint8
		l    []api.Plan
		many int
		want api.Errno
	}{
		{0, 4, tooMany, 0, api.ErrArg},
		{1, 0, bad, 33, api.ErrArg},
		{0, 0, nil, -1, api.ErrArg},
		{0, 0, tooMany, 1, api.ErrStore},
		{last + 1, 0, bad, 1, api.ErrStore},
		{1, 4, tooMany, 1, api.ErrStore},
		{1, 4, bad, 32, api.ErrStore},
		{1, 0, tooMany, 1, api.ErrMany},
		{1, 0, append(bad, long...), 1, api.ErrMany},
		{1, 0, append(bad, long[1:]...), 1, api.ErrPlan},
		{1, 0, bad, 1, api.ErrPlan},
		{1, 0, long, 1, api.ErrStore},
		{1, 0, long, 5, api.ErrStore},
		{1, 0, long, 6, api.OK},
		{1, 0, good, 1, api.OK},
		{last, 3, good, 32, api.OK},
	} {
		if got, e := holdBlocks(t, api.Kept{Gen: c.gen, Mode: c.mode, Plans: c.l}, c.many); e != c.want || (e == api.OK) != (len(got) > 0) {
			t.Error(i, e, len(got))
		}
	}
}

// P19.1, P19.3: what fits just, and what by one byte does not, into each number of blocks: from 128 bytes on how many there are takes a byte more.
func TestWhatFitsJust(t *testing.T) {
	for many := 1; many <= 32; many++ {
		d := formatted(t, 2*many)
		for size := 4; size <= 248; size++ {
			if many > 7 && size < 248 && size != 4 {
				continue
			}
			l := plansOf(size)
			inside := 2 + size
			all := inside + 1
			if inside > 127 {
				all++
			}
			want := api.OK
			if all > 48*many {
				want = api.ErrStore
			}
			if _, e := holdBlocks(t, api.Kept{Gen: size, Mode: 2, Plans: l}, many); e != want {
				t.Fatal(many, size, e)
			}
			puts, e := holdPut(t, d, 2, l)
			if e != want {
				t.Fatal("put", many, size, e)
			}
			if k, e := holdRead(t, slowDo(d, puts, len(puts), 0)); want == api.OK && (e != api.OK || !sameKept(k, api.Kept{Gen: 1, Mode: 2, Plans: l})) {
				t.Fatal("read", many, size, e)
			}
		}
	}
}

// P19.1, P19.5: Blocks of any Gens, modes and plans, each of which a slot keeps.
func TestBlocksOfAnything(t *testing.T) {
	source := rand.New(rand.NewPCG(19, 1))
	for range 3000 {
		many := 1 + source.IntN(8)
		k := api.Kept{Gen: 1 + int(source.Uint64()>>2>>source.IntN(62)), Mode: uint8(source.IntN(4)), Plans: somePlans(source, many)}
		k.Gen = min(k.Gen, last)
		blocks, e := holdBlocks(t, k, many)
		if e != api.OK {
			t.Fatal(k, many, e)
		}
		all := slices.Concat(blocks...)
		for i, d := range []api.Device{deviceOf(all, noughts(many)), deviceOf(noughts(many), all), deviceOf(noughts(many), all, someBytes(source, 64))} {
			one := min(i, 1)
			if got, e := holdSlot(t, d, one); e != api.OK || !sameKept(got, k) {
				t.Fatal(got, e, k)
			}
			if got, e := holdSlot(t, d, 1-one); e != api.ErrBad {
				t.Fatal("noughts hold", got)
			}
			if got, e := holdRead(t, d); e != api.OK || !sameKept(got, k) {
				t.Fatal(got, e, k)
			}
		}
	}
}

// P19.2: Format at each number of blocks, and at the edges.
func TestFormat(t *testing.T) {
	for n := 2; n <= 64; n++ {
		if d, e := Format(n); e != api.OK || !bytes.Equal(d.Data, noughts(n)) {
			t.Error(n, len(d.Data), e)
		}
	}
	for _, n := range []int{least, least + 1, -64, -2, -1, 0, 65, 66, 128, 1 << 32, 1<<32 + 2, 1<<58 + 2, greatest/64 + 2, greatest - 1, greatest} {
		if d, e := Format(n); e != api.ErrBlock || len(d.Data) != 0 {
			t.Error(n, len(d.Data), e)
		}
	}
	if d, e := Format(1); e != api.ErrStore || len(d.Data) != 0 {
		t.Error(len(d.Data), e)
	}
}

// P19.2: a device on which nothing is kept tells so, and so do its slots.
func TestNothingKept(t *testing.T) {
	for n := 2; n <= 64; n++ {
		d := formatted(t, n)
		if k, e := holdRead(t, d); e != api.ErrStore {
			t.Error(n, k, e)
		}
		for i := range 2 {
			if k, e := holdSlot(t, d, i); e != api.ErrBad {
				t.Error(n, i, k, e)
			}
		}
	}
}

// oddDevices may not be; a device of one block may, but has no slots.
func oddDevices() []api.Device {
	list := []api.Device{{}, {Data: []byte{}}}
	for _, n := range []int{1, 2, 63, 65, 127, 129, 191, 64*64 - 1, 64*64 + 1, 65 * 64, 66 * 64, 128 * 64, 1 << 16} {
		list = append(list, api.Device{Data: make([]byte, n)})
	}
	// Room is not length.
	return append(list, api.Device{Data: make([]byte, 63, 128)}, api.Device{Data: make([]byte, 0, 128)})
}

func slotsAround() []int {
	return []int{least, least + 1, -2, -1, 0, 1, 2, 3, 64, greatest - 1, greatest}
}

// P19.2, P19.3: a device that may not be is told first, then one that has one block alone, whatever else may not be.
func TestOddDevices(t *testing.T) {
	one := slotOfKept(t, 7, 2, nil, 1)
	devices := append(oddDevices(), api.Device{Data: noughts(1)}, deviceOf(one), api.Device{Data: one[:64:64]})
	for i, d := range devices {
		want := api.ErrBlock
		if len(d.Data) == 64 {
			want = api.ErrStore
		}
		if _, e := holdRead(t, d); e != want {
			t.Error(i, e)
		}
		for _, n := range slotsAround() {
			if _, e := holdSlot(t, d, n); e != want {
				t.Error(i, n, e)
			}
		}
		for _, mode := range modesAround() {
			for _, l := range plansAround() {
				if _, e := holdPut(t, d, mode, l); e != want {
					t.Error(i, mode, len(l), e)
				}
			}
		}
	}
}

// P19.2: Slot of each number around, where both slots hold, where one does, and where none does.
func TestNumbersOfSlots(t *testing.T) {
	for _, many := range []int{1, 2, 3, 32} {
		a, b := slotOfKept(t, 5, 1, plansOf(20), many), slotOfKept(t, 6, 2, plansOf(30), many)
		for _, d := range []api.Device{deviceOf(a, b), deviceOf(a, noughts(many)), deviceOf(noughts(many), b), deviceOf(noughts(2 * many))} {
			for _, i := range slotsAround() {
				k, e := holdSlot(t, d, i)
				if i != 0 && i != 1 && e != api.ErrArg {
					t.Error(many, i, k, e)
				}
			}
		}
		d := deviceOf(a, b)
		if k, e := Slot(d, 0); e != api.OK || !sameKept(k, api.Kept{Gen: 5, Mode: 1, Plans: plansOf(20)}) {
			t.Error(many, k, e)
		}
		if k, e := Slot(d, 1); e != api.OK || !sameKept(k, api.Kept{Gen: 6, Mode: 2, Plans: plansOf(30)}) {
			t.Error(many, k, e)
		}
	}
}

// P19.2: which slot counts, with Gens that differ and with like ones; if only one of them holds it does.
func TestWhichCounts(t *testing.T) {
	gens := []int{1, 2, 3, 255, 256, 257, 1 << 31, 1 << 32, 1<<53 + 1, last - 1, last}
	for _, many := range []int{1, 2, 5, 32} {
		for _, a := range gens {
			first := slotOfKept(t, a, 1, plansOf(4), many)
			for _, b := range gens {
				second := slotOfKept(t, b, 2, plansOf(5), many)
				want := uint8(1)
				if b > a {
					want = 2
				}
				if k, e := holdRead(t, deviceOf(first, second)); e != api.OK || k.Mode != want || k.Gen != max(a, b) {
					t.Error(many, a, b, k, e)
				}
			}
			if k, e := holdRead(t, deviceOf(first, noughts(many))); e != api.OK || k.Gen != a || k.Mode != 1 {
				t.Error(many, a, k, e)
			}
			if k, e := holdRead(t, deviceOf(noughts(many), first)); e != api.OK || k.Gen != a || k.Mode != 1 {
				t.Error("slot 1 alone", many, a, k, e)
			}
		}
	}
}

// P19.2: the block behind the slots of an odd number of blocks belongs to none, whatever stands there.
func TestOddBlock(t *testing.T) {
	source := rand.New(rand.NewPCG(19, 2))
	for _, many := range []int{1, 2, 3, 31} {
		a, b := slotOfKept(t, 8, 1, plansOf(10), many), slotOfKept(t, 9, 2, plansOf(11), many)
		for _, odd := range [][]byte{noughts(1), a[:64], b[:64], between(last, make([]byte, 48), last), someBytes(source, 64)} {
			d := deviceOf(a, b, odd)
			if k, e := holdRead(t, d); e != api.OK || k.Gen != 9 {
				t.Error(many, k, e)
			}
			for i := range 2 {
				if k, e := holdSlot(t, d, i); e != api.OK || k.Gen != 8+i {
					t.Error(many, i, k, e)
				}
			}
			if puts := well(t, d, 3, nil); len(puts) != many || puts[0].N != 0 || genOf(puts) != 10 {
				t.Error(many, puts)
			}
		}
	}
}

// P19.2: slots whose bytes are right but for one byte, wherever it stands, and whatever stands there.
func TestOneByteOff(t *testing.T) {
	for _, c := range []struct{ many, gen, size int }{{1, 300, 20}, {2, 1, 60}, {3, last, 140}, {4, 77, 0}, {6, 1<<40 + 5, 248}} {
		right := slotOfKept(t, c.gen, 2, plansOf(c.size), c.many)
		held := 0
		for at := range right {
			for x := 1; x < 256; x++ {
				if c.many > 2 && x&(x-1) > 0 && x < 253 {
					continue
				}
				slot := slices.Clone(right)
				slot[at] ^= byte(x)
				k, e := holdSlot(t, deviceOf(slot, right), 0)
				if e == api.OK {
					held++
				}
				if block := at % 64; e == api.OK && (block < 8 || block >= 56 || k.Gen != c.gen) {
					t.Fatal("another Gen", at, x, k)
				}
				if at < 64 && at >= 56 || at < 8 || at >= 64*c.many-8 {
					if k, e := Slot(deviceOf(right, slot), 1); e != api.ErrBad || !sameKept(k, api.Kept{}) {
						t.Fatal("slot 1", at, x, k, e)
					}
				}
			}
		}
		// Another byte of a plan makes another plan, and the mode can be another one.
		if held < 2 {
			t.Error(c, held)
		}
	}
}

// P19.2: what looks like a slot that holds, but is not the blocks of anything that may be kept.
func TestWhatDoesNotHold(t *testing.T) {
	right := slowInside(2, []api.Plan{planOf(300, 4, 5, 6)})
	with := func(many int, inside ...byte) []byte { return append(numbers(many), inside...) }
	for i, c := range []struct {
		told  []byte
		holds bool
	}{
		{with(len(right), right...), true},
		{with(len(right)-1, right...), false},
		{with(len(right)+1, right...), false},
		{with(len(right)+1, append(right, 0)...), false},
		{with(len(right), append(slices.Clone(right), 1)...), false},
		{append([]byte{byte(len(right)) | 128, 0}, right...), false},
		{with(2, 0, 0), true},
		{with(2, 3, 0), true},
		{with(2, 4, 0), false},
		{with(2, 127, 0), false},
		{with(3, 128, 2, 0), false},
		{with(3, 130, 2, 0), false},
		{with(3, 130, 0, 0), false},
		{with(11, 128, 128, 128, 128, 128, 128, 128, 128, 128, 1, 0), false},
		{with(11, 130, 128, 128, 128, 128, 128, 128, 128, 128, 2, 0), false},
		{with(0), false},
		{with(1, 0), false},
		{with(1, 0, 0), false},
		{with(3, 0, 0, 0), false},
		{with(3, 0, 128, 0), false},
		{with(47, append(slowInside(1, plansOf(45)), 0)...), true},
		{with(48, slowInside(1, plansOf(45))...), false},
		{numbers(greatest), false},
		{[]byte{255, 255, 255, 255, 255, 255, 255, 255, 255, 1}, false},
		{bytes.Repeat([]byte{255}, 48), false},
		{bytes.Repeat([]byte{128}, 48), false},
		{with(5, 0, 1, 0, 0, 1, 5), false},
		{with(6, 0, 1, 0, 0, 1, 5), false},
		{with(6, 0, 1, 5, 5, 1, 5), false},
		{with(5, 0, 1, 5, 0, 0), false},
		{with(6, 0, 1, 5, 0, 1, 5), true},
		{with(10, 0, 9, 5, 0, 1, 5, 5, 0, 1, 5), false},
		{with(38, append([]byte{0, 9}, bytes.Repeat([]byte{5, 0, 1, 5}, 9)...)...), false},
		{with(34, append([]byte{0, 8}, bytes.Repeat([]byte{5, 0, 1, 5}, 8)...)...), true},
	} {
		all := append(slices.Clone(c.told), make([]byte, 48)...)[:48]
		for gen, may := range map[uint64]bool{0: false, 1: true, 1 << 40: true, last: true, last + 1: false, last + 2: false, 1 << 63: false, 1<<63 + 1: false, 1<<64 - 1: false} {
			d := deviceOf(between(gen, all, gen), noughts(1))
			k, e := holdSlot(t, d, 0)
			if want := c.holds && may; (e == api.OK) != want {
				t.Error(i, gen, k, e)
			}
			if other, f := holdSlot(t, deviceOf(noughts(1), between(gen, all, gen)), 1); f != e || !sameKept(other, k) {
				t.Error("slot 1", i, gen, other, f)
			}
		}
	}
}

// P19.2: blocks of which each would be right in another slot: of another Gen, in another order, with another one's piece.
func TestMixedBlocks(t *testing.T) {
	l := plansOf(120)
	a, b := slotOfKept(t, 5, 1, l, 3), slotOfKept(t, 6, 1, l, 3)
	for mask := range 8 {
		var slot []byte
		for i := range 3 {
			from := a
			if mask>>i&1 == 1 {
				from = b
			}
			slot = append(slot, from[64*i:64*i+64]...)
		}
		k, e := holdSlot(t, deviceOf(slot, noughts(3)), 0)
		if all := mask == 0 || mask == 7; (e == api.OK) != all || all && k.Gen != 5+mask/7 {
			t.Error(mask, k, e)
		}
	}
	for _, order := range [][]int{{0, 2, 1}, {1, 0, 2}, {1, 2, 0}, {2, 0, 1}, {2, 1, 0}, {0, 0, 2}, {0, 1, 1}} {
		var slot []byte
		for _, i := range order {
			slot = append(slot, a[64*i:64*i+64]...)
		}
		if k, e := holdSlot(t, deviceOf(slot, b), 0); e != api.ErrBad {
			t.Error(order, k, e)
		}
	}
}
