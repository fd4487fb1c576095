package block

import (
	"bytes"
	"slices"
	"testing"

	"stopline/api"
)

// The numbers that the document gives.
func TestGivenNumbers(t *testing.T) {
	if api.Block != 64 || api.MaxBlocks != 64 || api.OK != 0 || api.ErrArg != 2 || api.ErrBad != 8 || api.ErrBlock != 180 {
		t.Error(api.Block, api.MaxBlocks, int(api.OK), int(api.ErrArg), int(api.ErrBad), int(api.ErrBlock))
	}
}

// Every row of the chapter's examples.
func TestExamples(t *testing.T) {
	ones := bytes.Repeat([]byte{1}, 64)
	d, e := New(2)
	if e != api.OK {
		t.Fatal(e)
	}
	behind, e := Write(d, 1, ones)
	b, f := Read(behind, 1)
	many, g := Many(d)
	if e != api.OK || f != api.OK || g != api.OK || !bytes.Equal(b, ones) || many != 2 {
		t.Error(b, many, e, f, g)
	}
	behind, e = Do(d, []api.Put{{N: 0, Data: ones}, {N: 1, Data: ones}}, 1, 2)
	if want := append(bytes.Repeat([]byte{1}, 66), make([]byte, 62)...); e != api.OK || !bytes.Equal(behind.Data, want) {
		t.Error(behind, e)
	}
	for _, n := range []int{0, 65} {
		if d, e := New(n); e != api.ErrBlock || len(d.Data) != 0 {
			t.Error(n, d, e)
		}
	}
	if b, e := Read(d, 2); e != api.ErrArg || len(b) != 0 {
		t.Error(b, e)
	}
	if d, e := Write(d, 0, ones[:63]); e != api.ErrBad || len(d.Data) != 0 {
		t.Error(d, e)
	}
	if d, e := Do(d, []api.Put{{N: 0, Data: ones}}, 2, 0); e != api.ErrArg || len(d.Data) != 0 {
		t.Error(d, e)
	}
}

// P18.1: New at each number of blocks, and at the edges of what may be.
func TestNew(t *testing.T) {
	for n := 1; n <= 64; n++ {
		d, e := New(n)
		if e != api.OK || !bytes.Equal(d.Data, make([]byte, 64*n)) {
			t.Error(n, len(d.Data), e)
		}
		if many, f := Many(d); many != n || f != api.OK || Check(d) != api.OK {
			t.Error(n, many, f, Check(d))
		}
	}
	for _, n := range []int{least, least + 1, -1 << 58, -64, -2, -1, 0, 65, 66, 128, 4096, 1 << 58, 1<<58 + 1, greatest/64 + 1, greatest - 1, greatest} {
		if d, e := New(n); e != api.ErrBlock || len(d.Data) != 0 {
			t.Error(n, len(d.Data), e)
		}
	}
}

// P18.1: Check and Many of devices of each length up to two blocks, around the greatest one, and at the edges.
func TestCheckAndMany(t *testing.T) {
	list := devicesAround()
	for n := range 3 * 64 {
		list = append(list, api.Device{Data: make([]byte, n)}, api.Device{Data: make([]byte, 64*64-96+n)}, api.Device{Data: make([]byte, n, 64*64)})
	}
	may := 0
	for _, d := range list {
		many, e := Many(d)
		if n := slowMany(d); n < 0 && (Check(d) != api.ErrBlock || e != api.ErrBlock || many != 0) || n >= 0 && (Check(d) != api.OK || e != api.OK || many != n) {
			t.Error(len(d.Data), Check(d), many, e)
		}
		if Check(d) == api.OK {
			may++
		}
	}
	// Of the edges 64, 128, 192, 4032 and 4096 bytes; of the others 64 and 128, 4032 and 4096, and 64 and 128 with more room.
	if may != 5+2+2+2 {
		t.Error(may)
	}
}

// P18.1: by hand, a device that may be and one that may not.
func TestCheckByHand(t *testing.T) {
	for n, want := range map[int]api.Errno{0: api.ErrBlock, 1: api.ErrBlock, 63: api.ErrBlock, 64: api.OK, 65: api.ErrBlock, 128: api.OK, 4032: api.OK, 4095: api.ErrBlock, 4096: api.OK, 4097: api.ErrBlock, 4160: api.ErrBlock, 8192: api.ErrBlock} {
		d := api.Device{Data: make([]byte, n)}
		many, e := Many(d)
		if Check(d) != want || e != want || want == api.OK && many != n/64 || want != api.OK && many != 0 {
			t.Error(n, Check(d), many, e)
		}
	}
	if Check(api.Device{}) != api.ErrBlock {
		t.Error("nil")
	}
}

// P18.1: Same of any two devices, those that may not be as well; nil is as empty is.
func TestSame(t *testing.T) {
	list := append(devicesAround(), marked(1), marked(2), marked(64), device(1), device(2), device(1, 2), device(2, 1), device(0), device(0, 0))
	for n := range 129 {
		d := marked(2)
		d.Data = d.Data[:n]
		list = append(list, d)
	}
	for i, a := range list {
		for k, b := range list {
			if got := Same(a, b); got != same(a, b) || i == k && !got {
				t.Error(len(a.Data), len(b.Data), got)
			}
		}
	}
	for _, d := range []api.Device{marked(1), marked(3), marked(64), device(7, 7, 7), {Data: make([]byte, 5000)}} {
		if !Same(d, device(d.Data...)) {
			t.Error("a copy", len(d.Data))
		}
		for i := range d.Data {
			other := device(d.Data...)
			other.Data[i] ^= 1 << (i % 8)
			if Same(d, other) || Same(other, d) {
				t.Error("another byte", len(d.Data), i)
			}
		}
	}
	if !Same(api.Device{}, api.Device{Data: []byte{}}) || Same(api.Device{}, device(0)) {
		t.Error("nil")
	}
}

// P18.2: each block of devices of each number of blocks, and numbers at the edges, of any devices.
func TestRead(t *testing.T) {
	for many := 1; many <= 64; many++ {
		d := marked(many)
		for n := range many {
			if b := holdRead(t, d, n); !bytes.Equal(b, filled(100+n)) {
				t.Error(many, n, b)
			}
		}
	}
	for _, d := range devicesAround() {
		for _, n := range numbersAround(d) {
			holdRead(t, d, n)
		}
	}
	// Room behind the blocks is no block.
	long := marked(5)
	holdRead(t, api.Device{Data: long.Data[:64]}, 1)
	holdRead(t, api.Device{Data: long.Data[:100]}, 1)
}

// P18.2: the same of writes, with bytes at the edges of how many there are.
func TestWrite(t *testing.T) {
	for many := 1; many <= 64; many++ {
		for n := range many {
			d := holdWrite(t, marked(many), n, filled(1))
			for i := range many {
				want := filled(100 + i)
				if i == n {
					want = filled(1)
				}
				if !bytes.Equal(d.Data[64*i:64*i+64], want) {
					t.Error(many, n, i)
				}
			}
		}
	}
	for _, d := range devicesAround() {
		for _, n := range numbersAround(d) {
			for _, b := range bytesAround() {
				holdWrite(t, d, n, b)
			}
		}
	}
	long := marked(5)
	holdWrite(t, api.Device{Data: long.Data[:64]}, 1, filled(1))
}

// lists are writes that may be on a device and such that may not, with a fault at each place.
func lists(d api.Device) [][]api.Put {
	many := max(slowMany(d), 1)
	list := [][]api.Put{nil, {}, writes(0), writes(many - 1), writes(0, 0), writes(many-1, 0, many-1), writes(0, many/2, 0, many-1, 0)}
	for _, n := range numbersAround(d) {
		list = append(list, writes(n), writes(n, 0), writes(0, n), writes(0, n, 0))
	}
	for _, b := range bytesAround() {
		for at := range 3 {
			l := writes(0, many-1, 0)
			l[at].Data = b
			list = append(list, l, l[:at+1])
		}
	}
	return list
}

// P18.3: Do at every edge by each other, of any devices.
func TestDoAtTheEdges(t *testing.T) {
	for _, d := range append(devicesAround(), marked(1), marked(2), marked(3)) {
		for _, l := range lists(d) {
			for _, whole := range wholesAround(l) {
				for _, torn := range tornsAround() {
					hold(t, d, l, whole, torn)
				}
			}
		}
	}
}

// P18.3: by hand: what each block's first and last byte is.
func TestDoByHand(t *testing.T) {
	one, two, three := bytes.Repeat([]byte{1}, 64), bytes.Repeat([]byte{2}, 64), bytes.Repeat([]byte{3}, 64)
	nines := api.Device{Data: bytes.Repeat([]byte{9}, 128)}
	l := []api.Put{{N: 1, Data: one}, {N: 0, Data: two}, {N: 1, Data: three}}
	for i, c := range []struct {
		whole, torn int
		want        []int // how many of which byte, one behind the other
	}{
		{0, 0, []int{128, 9}}, {0, 1, []int{64, 9, 1, 1, 63, 9}}, {0, 63, []int{64, 9, 63, 1, 1, 9}}, {0, 64, []int{64, 9, 64, 1}},
		{1, 0, []int{64, 9, 64, 1}}, {1, 1, []int{1, 2, 63, 9, 64, 1}}, {1, 40, []int{40, 2, 24, 9, 64, 1}}, {1, 64, []int{64, 2, 64, 1}},
		{2, 0, []int{64, 2, 64, 1}}, {2, 1, []int{64, 2, 1, 3, 63, 1}}, {2, 63, []int{64, 2, 63, 3, 1, 1}}, {2, 64, []int{64, 2, 64, 3}},
		{3, 0, []int{64, 2, 64, 3}}, {3, 1, []int{64, 2, 64, 3}}, {3, 64, []int{64, 2, 64, 3}},
	} {
		var want []byte
		for pair := range slices.Chunk(c.want, 2) {
			want = append(want, bytes.Repeat([]byte{byte(pair[1])}, pair[0])...)
		}
		if d := well(t, nines, l, c.whole, c.torn); !bytes.Equal(d.Data, want) {
			t.Error(i, d)
		}
	}
}

// P18.3: no writes leave the device as it is, however it would be torn.
func TestNoWrites(t *testing.T) {
	for _, many := range []int{1, 2, 63, 64} {
		for torn := range 65 {
			for _, l := range [][]api.Put{nil, {}, make([]api.Put, 0, 9)} {
				if d := well(t, marked(many), l, 0, torn); !same(d, marked(many)) {
					t.Error(many, torn)
				}
			}
		}
	}
}

// holdErrors holds each call against an error that is known.
func holdErrors(t *testing.T, d api.Device, l []api.Put, whole, torn int, want api.Errno) {
	t.Helper()
	if got, e := Do(d, l, whole, torn); e != want || len(got.Data) != 0 {
		t.Error(len(d.Data), len(l), whole, torn, "told", len(got.Data), e, "not", want)
	}
}

// P18.2: a device that may not be, ahead of a bad number, ahead of bad bytes; nothing is told beside an error.
func TestWhichErrorOfOneIsTold(t *testing.T) {
	for _, d := range devicesAround() {
		good := slowMany(d) > 0
		for _, n := range badNumbers(d) {
			want := api.ErrBlock
			if good {
				want = api.ErrArg
			}
			if b, e := Read(d, n); e != want || len(b) != 0 {
				t.Error(len(d.Data), n, b, e)
			}
			for _, b := range bytesAround() {
				if got, e := Write(d, n, b); e != want || len(got.Data) != 0 {
					t.Error(len(d.Data), n, len(b), e)
				}
				holdErrors(t, d, []api.Put{{N: n, Data: b}}, 1, 0, want)
			}
		}
		for _, b := range bytesAround() {
			got, e := Write(d, 0, b)
			switch {
			case !good:
				if e != api.ErrBlock || len(got.Data) != 0 {
					t.Error(len(d.Data), len(b), e)
				}
			case len(b) != 64:
				if e != api.ErrBad || len(got.Data) != 0 {
					t.Error(len(d.Data), len(b), e)
				}
			case e != api.OK || len(got.Data) != len(d.Data):
				t.Error(len(d.Data), e)
			}
		}
	}
}

// P18.3: a device that may not be, ahead of all else; of the writes the first one's error that has one, also behind those that are done; a bad write ahead of a bad whole or torn; a bad whole beside a bad torn.
func TestWhichErrorOfManyIsTold(t *testing.T) {
	wholes, torns := []int{least, -1, 0, 1, 2, 3, 4, greatest}, []int{least, -1, 0, 1, 63, 64, 65, greatest}
	for _, d := range devicesAround() {
		many := slowMany(d)
		number, few, both := api.Put{N: len(d.Data)/64 + 1, Data: filled(1)}, api.Put{N: 0, Data: filled(1)[:63]}, api.Put{N: -1}
		fine := api.Put{N: max(many, 1) - 1, Data: filled(2)}
		for _, c := range []struct {
			l []api.Put
			e api.Errno
		}{
			{[]api.Put{number}, api.ErrArg}, {[]api.Put{few}, api.ErrBad}, {[]api.Put{both}, api.ErrArg},
			{[]api.Put{number, few}, api.ErrArg}, {[]api.Put{few, number}, api.ErrBad}, {[]api.Put{both, few}, api.ErrArg}, {[]api.Put{few, both}, api.ErrBad},
			{[]api.Put{fine, number, few}, api.ErrArg}, {[]api.Put{fine, few, number}, api.ErrBad}, {[]api.Put{fine, both, fine}, api.ErrArg},
			{[]api.Put{fine, fine, number}, api.ErrArg}, {[]api.Put{fine, fine, few}, api.ErrBad}, {[]api.Put{few, fine, fine}, api.ErrBad},
			{[]api.Put{fine, fine, fine}, api.OK}, {nil, api.OK},
		} {
			for _, whole := range wholes {
				for _, torn := range torns {
					switch {
					case many < 0:
						holdErrors(t, d, c.l, whole, torn, api.ErrBlock)
					case c.e != api.OK:
						holdErrors(t, d, c.l, whole, torn, c.e)
					case whole < 0 || whole > len(c.l) || torn < 0 || torn > 64:
						holdErrors(t, d, c.l, whole, torn, api.ErrArg)
					default:
						well(t, d, c.l, whole, torn)
					}
				}
			}
		}
	}
}

// P18.3: of more writes than there are blocks, a fault at each place is told, also behind those that are done; a fault of another kind behind it is not.
func TestFaultAtEachPlace(t *testing.T) {
	d, numbers := marked(3), []int{}
	for i := range api.MaxBlocks + 6 {
		numbers = append(numbers, i%3)
	}
	for place := range numbers {
		for _, c := range []struct {
			fault, other api.Put
			e            api.Errno
		}{
			{api.Put{N: 3, Data: filled(1)}, api.Put{N: 0}, api.ErrArg}, {api.Put{N: -1, Data: filled(1)}, api.Put{N: 0, Data: filled(1)[1:]}, api.ErrArg},
			{api.Put{N: 0, Data: filled(1)[1:]}, api.Put{N: 3, Data: filled(1)}, api.ErrBad}, {api.Put{N: 2, Data: make([]byte, 65)}, api.Put{N: greatest}, api.ErrBad},
		} {
			l := writes(numbers...)
			l[place] = c.fault
			for _, behind := range []int{place, place + 1, len(l) - 1} {
				if behind > place && behind < len(l) {
					l[behind] = c.other
				}
				for _, whole := range []int{-1, 0, place, place + 1, len(l), len(l) + 1} {
					for _, torn := range []int{-1, 0, 64, 65} {
						holdErrors(t, d, l, whole, torn, c.e)
					}
				}
			}
		}
	}
}
