package block

import (
	"bytes"
	"math"
	"math/rand/v2"
	"slices"
	"testing"

	"stopline/api"
)

const (
	least    = math.MinInt
	greatest = math.MaxInt
)

// What the chapter says, word by word, byte by byte, and by other means than the package.

// slowMany takes block by block off a device; -1, if it may not be.
func slowMany(d api.Device) int {
	many := 0
	for left := len(d.Data); left > 0; left -= 64 {
		if left < 64 {
			return -1
		}
		many++
	}
	if many == 0 || many > 64 {
		return -1
	}
	return many
}

// slowHas goes through the numbers of all blocks.
func slowHas(d api.Device, n int) bool {
	for i := range max(slowMany(d), 0) {
		if i == n {
			return true
		}
	}
	return false
}

func slowRead(d api.Device, n int) ([]byte, api.Errno) {
	if slowMany(d) < 0 {
		return nil, api.ErrBlock
	}
	if !slowHas(d, n) {
		return nil, api.ErrArg
	}
	var list []byte
	for i, x := range d.Data {
		if i/64 == n {
			list = append(list, x)
		}
	}
	return list, api.OK
}

// slowWrite takes each byte either from the device or from b.
func slowWrite(d api.Device, n int, b []byte) (api.Device, api.Errno) {
	if slowMany(d) < 0 {
		return api.Device{}, api.ErrBlock
	}
	if !slowHas(d, n) {
		return api.Device{}, api.ErrArg
	}
	if len(b) != 64 {
		return api.Device{}, api.ErrBad
	}
	var list []byte
	for i, x := range d.Data {
		if i/64 == n {
			x = b[i%64]
		}
		list = append(list, x)
	}
	return api.Device{Data: list}, api.OK
}

func slowDo(d api.Device, l []api.Put, whole, torn int) (api.Device, api.Errno) {
	if e := slowError(d, l, whole, torn); e != api.OK {
		return api.Device{}, e
	}
	for i, p := range l {
		if i < whole {
			d, _ = slowWrite(d, p.N, p.Data)
		}
		if i == whole {
			block, _ := slowRead(d, p.N)
			for at := range block {
				if at < torn {
					block[at] = p.Data[at]
				}
			}
			d, _ = slowWrite(d, p.N, block)
		}
	}
	return device(d.Data...), api.OK
}

func slowError(d api.Device, l []api.Put, whole, torn int) api.Errno {
	if slowMany(d) < 0 {
		return api.ErrBlock
	}
	for _, p := range l {
		if !slowHas(d, p.N) {
			return api.ErrArg
		}
		if len(p.Data) != 64 {
			return api.ErrBad
		}
	}
	if whole < 0 || len(l) < whole {
		return api.ErrArg
	}
	if torn < 0 || 64 < torn {
		return api.ErrArg
	}
	return api.OK
}

// byteBehind looks back alone: the byte is that of the last write that reached it, or the device's.
func byteBehind(d api.Device, l []api.Put, whole, torn, i int) byte {
	reaches := func(k int) bool {
		return l[k].N == i/64 && (k < whole || k == whole && i%64 < torn)
	}
	for k := len(l) - 1; k >= 0; k-- {
		if reaches(k) {
			return l[k].Data[i%64]
		}
	}
	return d.Data[i]
}

func device(list ...byte) api.Device { return api.Device{Data: slices.Clone(list)} }

// filled is a block's bytes; those of two marks differ at each place.
func filled(mark int) []byte {
	list := make([]byte, 64)
	for at := range list {
		list[at] = byte(37*mark + 3*at + 1)
	}
	return list
}

// marked is a device whose blocks have the marks from 100 on.
func marked(many int) api.Device {
	var d api.Device
	for i := range many {
		d.Data = append(d.Data, filled(100+i)...)
	}
	return d
}

// writes are one into each of these blocks, with the marks from 1 on.
func writes(numbers ...int) []api.Put {
	var list []api.Put
	for i, n := range numbers {
		list = append(list, api.Put{N: n, Data: filled(1 + i)})
	}
	return list
}

// everyList calls with each list of as many writes at most into blocks of a device.
func everyList(many, most int, each func(l []api.Put)) {
	var from func(numbers []int)
	from = func(numbers []int) {
		each(writes(numbers...))
		if len(numbers) == most {
			return
		}
		for n := range many {
			from(append(slices.Clone(numbers), n))
		}
	}
	from(nil)
}

func someBytes(source *rand.Rand, many int) []byte {
	list := make([]byte, many)
	for i := range list {
		list[i] = byte(source.Uint32())
	}
	return list
}

func someDevice(source *rand.Rand, many int) api.Device {
	return api.Device{Data: someBytes(source, 64*many)}
}

// someWrites are such that may be on a device of so many blocks, some of them with the bytes of one ahead.
func someWrites(source *rand.Rand, many, most int) []api.Put {
	var list []api.Put
	for range source.IntN(most + 1) {
		p := api.Put{N: source.IntN(many), Data: someBytes(source, 64)}
		if len(list) > 0 && source.IntN(4) == 0 {
			p.Data = slices.Clone(list[source.IntN(len(list))].Data)
		}
		list = append(list, p)
	}
	return list
}

// devicesAround are devices at the edges of what may be, with any bytes.
func devicesAround() []api.Device {
	list := []api.Device{{}, {Data: []byte{}}}
	for _, n := range []int{1, 2, 63, 64, 65, 100, 127, 128, 129, 192, 63 * 64, 64*64 - 1, 64 * 64, 64*64 + 1, 65 * 64, 66 * 64, 128 * 64, 64 * 64 * 64} {
		list = append(list, api.Device{Data: bytes.Repeat([]byte{9, 8, 7}, n/3+1)[:n]})
	}
	return list
}

// numbersAround are the edges of a block's number; 64 times some of them is small again, if it wraps.
func numbersAround(d api.Device) []int {
	many := len(d.Data) / 64
	return []int{least, least + 1, -1 << 58, -64, -1, 0, 1, many - 2, many - 1, many, many + 1, 63, 64, 64 * many, 1 << 58, 1<<58 + 1, greatest/64 + 1, greatest - 1, greatest}
}

func badNumbers(d api.Device) []int {
	return slices.DeleteFunc(numbersAround(d), func(n int) bool { return slowHas(d, n) })
}

// bytesAround are bytes of a write, at the edges of how many there are.
func bytesAround() [][]byte {
	list := [][]byte{nil, {}}
	for _, n := range []int{1, 2, 63, 64, 65, 127, 128, 4096} {
		list = append(list, bytes.Repeat([]byte{5}, n))
	}
	// Room is not length.
	return append(list, make([]byte, 63, 64), make([]byte, 0, 64), make([]byte, 64, 200))
}

func wholesAround(l []api.Put) []int {
	return []int{least, least + 1, -2, -1, 0, 1, len(l) / 2, len(l) - 1, len(l), len(l) + 1, len(l) + 2, 64, greatest - 1, greatest}
}

func tornsAround() []int {
	return []int{least, least + 1, -64, -1, 0, 1, 2, 32, 62, 63, 64, 65, 66, 128, greatest - 1, greatest}
}

// same is what the tests hold devices with; an answer beside an error has none.
func same(a, b api.Device) bool {
	if len(a.Data) != len(b.Data) {
		return false
	}
	for i, x := range a.Data {
		if x != b.Data[i] {
			return false
		}
	}
	return true
}

// hold calls Do, and holds it against the slow reading.
func hold(t *testing.T, d api.Device, l []api.Put, whole, torn int) api.Device {
	t.Helper()
	got, e := Do(d, l, whole, torn)
	want, f := slowDo(d, l, whole, torn)
	if e != f || !same(got, want) || e != api.OK && len(got.Data) != 0 {
		t.Fatalf("a device of %d bytes, %d writes, whole %d, torn %d: %d, %d bytes; not %d, %d bytes", len(d.Data), len(l), whole, torn, e, len(got.Data), f, len(want.Data))
	}
	return got
}

// well calls Do with what may be, and holds it so.
func well(t *testing.T, d api.Device, l []api.Put, whole, torn int) api.Device {
	t.Helper()
	got := hold(t, d, l, whole, torn)
	if slowError(d, l, whole, torn) != api.OK {
		t.Fatal("it may not be", len(d.Data), len(l), whole, torn)
	}
	return got
}

func holdRead(t *testing.T, d api.Device, n int) []byte {
	t.Helper()
	got, e := Read(d, n)
	want, f := slowRead(d, n)
	if e != f || !bytes.Equal(got, want) || e != api.OK && len(got) != 0 {
		t.Fatal(len(d.Data), n, "told", got, e, "not", want, f)
	}
	return got
}

func holdWrite(t *testing.T, d api.Device, n int, b []byte) api.Device {
	t.Helper()
	got, e := Write(d, n, b)
	want, f := slowWrite(d, n, b)
	if e != f || !same(got, want) || e != api.OK && len(got.Data) != 0 {
		t.Fatal(len(d.Data), n, len(b), "told", got, e, "not", want, f)
	}
	return got
}
