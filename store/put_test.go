package store

import (
	"bytes"
	"math/rand/v2"
	"slices"
	"testing"

	"stopline/api"
)

// P19.3: Put at the edges of mode and plans, all against all, on devices of few blocks and of many.
func TestPutAtTheEdges(t *testing.T) {
	told := map[api.Errno]int{}
	for _, n := range []int{2, 3, 4, 5, 12, 63, 64} {
		full := deviceOf(slotOfKept(t, last, 1, nil, n/2), noughts(n-n/2))
		for _, d := range []api.Device{formatted(t, n), full} {
			for _, mode := range modesAround() {
				for _, l := range plansAround() {
					_, e := holdPut(t, d, mode, l)
					told[e]++
				}
			}
		}
	}
	for _, e := range []api.Errno{api.OK, api.ErrArg, api.ErrStore, api.ErrMany, api.ErrPlan} {
		if told[e] == 0 {
			t.Error("never told", e)
		}
	}
}

// P19.3: which error Put tells where more than one would hold; behind a Gen that is the last one there is none.
func TestErrorsOfPut(t *testing.T) {
	good, bad := []api.Plan{planOf(5, 0, 5)}, []api.Plan{planOf(0, 0, 5)}
	tooMany := append(slices.Repeat(good, 8), bad...)
	fresh, full := formatted(t, 2), deviceOf(slotOfKept(t, last, 1, nil, 1), noughts(1))
	for i, c := range []struct {
		d    api.Device
		mode uint8
		l    []api.Plan
		want api.Errno
	}{
		{api.Device{}, 4, tooMany, api.ErrBlock},
		{api.Device{Data: noughts(1)}, 4, tooMany, api.ErrStore},
		{fresh, 4, tooMany, api.ErrArg},
		{fresh, 255, bad, api.ErrArg},
		{full, 4, nil, api.ErrArg},
		{fresh, 3, tooMany, api.ErrMany},
		{full, 3, tooMany, api.ErrMany},
		{fresh, 3, append(bad, plansOf(248)[1:]...), api.ErrPlan},
		{full, 3, bad, api.ErrPlan},
		{fresh, 3, plansOf(248), api.ErrStore},
		{full, 3, good, api.ErrStore},
		{fresh, 3, good, api.OK},
		{fresh, 0, nil, api.OK},
	} {
		if puts, e := holdPut(t, c.d, c.mode, c.l); e != c.want || (e == api.OK) != (len(puts) == 1) {
			t.Error(i, e, len(puts))
		}
	}
}

// P19.3: the slot that is written is the one that does not count; slot 0, if none does.
func TestWhichIsWritten(t *testing.T) {
	for _, many := range []int{1, 2, 7, 32} {
		none, five, nine := noughts(many), slotOfKept(t, 5, 1, nil, many), slotOfKept(t, 9, 2, plansOf(9), many)
		other := slotOfKept(t, 9, 3, nil, many)
		for i, c := range []struct {
			d            api.Device
			written, gen int
		}{
			{deviceOf(none, none), 0, 1},
			{deviceOf(five, none), 1, 6},
			{deviceOf(none, five), 0, 6},
			{deviceOf(five, nine), 0, 10},
			{deviceOf(nine, five), 1, 10},
			{deviceOf(nine, other), 1, 10},
			{deviceOf(other, nine), 1, 10},
			{deviceOf(nine, nine), 1, 10},
		} {
			puts := well(t, c.d, 1, plansOf(5))
			if len(puts) != many || genOf(puts) != c.gen {
				t.Error(many, i, len(puts), genOf(puts))
			}
			for k, p := range puts {
				if p.N != many*c.written+k {
					t.Error(many, i, k, p.N)
				}
			}
		}
	}
}

// P19.3: the new Gen by hand. Slot 0 keeps the Gen counts, or nothing, if that is 0; of the other slot's blocks the numbers are told, its begin and its end.
func TestGenByHand(t *testing.T) {
	for i, c := range []struct {
		counts int
		shown  [][2]uint64
		want   int
	}{
		{0, [][2]uint64{{0, 0}}, 1},
		{1, [][2]uint64{{0, 0}}, 2},
		{7, [][2]uint64{{0, 0}}, 8},
		{255, [][2]uint64{{0, 0}}, 257},
		{255, [][2]uint64{{0, 1}}, 256},
		{7, [][2]uint64{{0, 8}}, 9},
		{7, [][2]uint64{{8, 0}}, 9},
		{7, [][2]uint64{{9, 8}}, 10},
		{7, [][2]uint64{{8, 9}}, 10},
		{7, [][2]uint64{{6, 7}}, 8},
		{7, [][2]uint64{{20, 6}}, 21},
		{7, [][2]uint64{{6, 20}}, 21},
		{700, [][2]uint64{{0, 701 - 256}}, 702},
		{700, [][2]uint64{{701 - 256, 0}}, 701},
		{700, [][2]uint64{{0, 1<<62 + 700}}, 701},
		{700, [][2]uint64{{0, 1<<62 + 701 - 512}}, 702},
		{700, [][2]uint64{{1<<62 + 701 - 512, 0}}, 701},
		{7, [][2]uint64{{1 << 62, 1 << 62}}, 8},
		{7, [][2]uint64{{1<<64 - 1, 1<<64 - 1}}, 8},
		{254, [][2]uint64{{1<<64 - 1, 1<<64 - 1}}, 256},
		{254, [][2]uint64{{1<<64 - 1, 1<<64 - 2}}, 255},
		{255, [][2]uint64{{0, 1 << 63}}, 257},
		{7, [][2]uint64{{0, 8}, {0, 10}, {0, 1<<63 | 11}}, 12},
		{7, [][2]uint64{{0, 0}, {0, 0}, {30, 1<<63 | 31}}, 32},
		{7, [][2]uint64{{0, 0}, {0, 1<<62 | 9}, {0, 1<<62 | 8}, {0, 1<<62 | 10}}, 11},
		{7, [][2]uint64{{0, 0}, {0, 1<<62 | 8}, {0, 1<<62 | 10}}, 9},
		{1 << 61, [][2]uint64{{1<<61 + 5, 1<<61 - 5}}, 1<<61 + 6},
		{last - 1, [][2]uint64{{0, 0}}, last},
		{7, [][2]uint64{{last - 1, 0}}, last},
		{7, [][2]uint64{{0, last - 1}}, last},
		{last - 1, [][2]uint64{{1<<64 - 1, 0}}, last},
		{0, [][2]uint64{{last - 1, 1 << 62}}, last},
		{last - 1, [][2]uint64{{0, 1<<64 - 1}}, 0},
		{last - 1, [][2]uint64{{0, 255}}, 0},
		{last - 2, [][2]uint64{{0, 254}}, last},
		{last - 2, [][2]uint64{{0, 254}, {0, 1<<63 | 255}}, 0},
		{last, [][2]uint64{{0, 0}}, 0},
		{7, [][2]uint64{{last, 0}}, 0},
		{7, [][2]uint64{{0, last}}, 0},
		{0, [][2]uint64{{0, last}}, 0},
	} {
		many := len(c.shown)
		first, second := noughts(many), []byte{}
		if c.counts > 0 {
			first = slotOfKept(t, c.counts, 1, nil, many)
		}
		for _, n := range c.shown {
			second = append(second, between(n[0], make([]byte, 48), n[1])...)
		}
		d := deviceOf(first, second)
		if c.counts == 0 {
			d = deviceOf(second, first)
		}
		puts, e := holdPut(t, d, 2, nil)
		if c.want == 0 && e != api.ErrStore || c.want > 0 && (e != api.OK || genOf(puts) != c.want) {
			t.Error(i, e, puts)
		}
	}
}

// P19.3: if no slot holds, what stands in slot 1 is nothing to the new Gen; nor is the odd block ever.
func TestGenMindsOneSlotAlone(t *testing.T) {
	for _, number := range []uint64{1, 2, 255, 1 << 40, last, 1 << 62, 1<<64 - 1} {
		shown := between(number, make([]byte, 48), number)
		for _, d := range []api.Device{deviceOf(noughts(1), shown), deviceOf(noughts(2), shown, shown), deviceOf(noughts(2), shown), deviceOf(noughts(4), shown)} {
			if puts := well(t, d, 0, nil); puts[0].N != 0 || genOf(puts) != 1 {
				t.Error(number, len(d.Data), puts)
			}
		}
		d := deviceOf(slotOfKept(t, 3, 1, nil, 1), noughts(1), shown)
		if puts := well(t, d, 0, nil); puts[0].N != 1 || genOf(puts) != 4 {
			t.Error(number, puts)
		}
	}
}

// P19.3: as many lowest bytes as a slot has blocks are not free: they may be all that come next, so that the Gen is so far above; and where the Gens end before one is free, none is left.
func TestFewBytesFree(t *testing.T) {
	source := rand.New(rand.NewPCG(19, 3))
	for many := 1; many <= 32; many++ {
		for _, counts := range []int{1, 200, 250, 255, 256, 1 << 50, last - 256, last - many - 1, last - many, last - many + 1, last} {
			first := slotOfKept(t, counts, 1, nil, many)
			var second []byte
			for _, i := range source.Perm(many) {
				high := []uint64{0, 1 << 62, 1 << 63, 1<<64 - 256}[source.IntN(4)]
				second = append(second, between(high, make([]byte, 48), high|uint64(byte(counts+1+i)))...)
			}
			puts, e := holdPut(t, deviceOf(first, second), 2, nil)
			// An end that is low enough counts as a bound, too, but forbids its own number alone.
			want := counts + many + 1
			if counts < 256 && e == api.OK && genOf(puts) > want || counts >= 256 && (e == api.OK) != (want <= last) || counts >= 256 && e == api.OK && genOf(puts) != want {
				t.Error(many, counts, e, puts)
			}
		}
	}
}

// P19.3: Gens of any devices whose blocks show numbers near the Gen that counts, far from it, and around 2^62.
func TestGenOfAnything(t *testing.T) {
	source := rand.New(rand.NewPCG(19, 4))
	none, some := 0, 0
	for range 30000 {
		many := 1 + source.IntN(4)
		if source.IntN(50) == 0 {
			many = 32
		}
		near := []uint64{1, 250, 1 << 40, last - 40, last - 3}[source.IntN(5)] + uint64(source.IntN(4))
		first := noughts(many)
		if source.IntN(4) > 0 {
			first = slotOfKept(t, int(near), 1, nil, many)
		}
		var second []byte
		for range many {
			second = append(second, between(someNumber(source, near), someBytes(source, 48), someNumber(source, near))...)
		}
		d := deviceOf(first, second)
		if source.IntN(2) == 0 {
			d = deviceOf(second, first)
		}
		if _, e := holdPut(t, d, uint8(source.IntN(4)), somePlans(source, many)); e == api.OK {
			some++
		} else {
			none++
		}
	}
	if none < 1000 || some < 10000 {
		t.Error(none, some)
	}
}

// P19.3: Gens where each pair of numbers near the one that counts begins and ends a block.
func TestGenOfEachPair(t *testing.T) {
	for _, counts := range []int{3, 256, 1<<56 + 255, last - 2} {
		first := slotOfKept(t, counts, 1, nil, 1)
		var list []uint64
		for more := range uint64(6) {
			c := uint64(counts)
			list = append(list, c-2+more, c-2+more-256, c-2+more+256, 1<<62+c-2+more, 1<<63+c-2+more, 1<<62-3+more, more)
		}
		for _, begin := range list {
			for _, end := range list {
				holdPut(t, deviceOf(first, between(begin, make([]byte, 48), end)), 1, nil)
				holdPut(t, deviceOf(between(begin, make([]byte, 48), end), noughts(1)), 1, nil)
			}
		}
	}
}

// P19.3, P19.5: what is put again and again goes into the slots by turns, and each time that is read; the Gen passes by the lowest bytes that its slot shows.
func TestPutAgainAndAgain(t *testing.T) {
	source := rand.New(rand.NewPCG(19, 5))
	for n := 2; n <= 9; n++ {
		d, gen := formatted(t, n), 0
		for i := range 700 {
			mode, l := uint8(source.IntN(4)), somePlans(source, n/2)
			puts := well(t, d, mode, l)
			if puts[0].N != i%2*(n/2) || genOf(puts) <= gen || genOf(puts) > gen+2 {
				t.Fatal(n, i, gen, puts)
			}
			gen = genOf(puts)
			d = slowDo(d, puts, len(puts), 0)
			if k, e := holdRead(t, d); e != api.OK || !sameKept(k, api.Kept{Gen: gen, Mode: mode, Plans: l}) {
				t.Fatal(n, i, k, e)
			}
		}
	}
}

// P19.1, P19.3: what Put writes are the blocks of what is read behind it.
func TestPutIsBlocks(t *testing.T) {
	source := rand.New(rand.NewPCG(19, 6))
	d := formatted(t, 7)
	for range 200 {
		puts := well(t, d, uint8(source.IntN(4)), somePlans(source, 3))
		d = slowDo(d, puts, len(puts), 0)
		k, e := holdRead(t, d)
		blocks, f := holdBlocks(t, k, 3)
		if e != api.OK || f != api.OK || !slices.EqualFunc(puts, blocks, func(p api.Put, b []byte) bool { return bytes.Equal(p.Data, b) }) {
			t.Fatal(e, f, puts, blocks)
		}
	}
}
