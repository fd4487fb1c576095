package block

import (
	"bytes"
	"math/rand/v2"
	"slices"
	"testing"

	"stopline/api"
)

// spared is a list with spare room behind it, filled so that a write there is seen.
func spared[T any](list []T, mark T) []T {
	long := append(slices.Clone(list), slices.Repeat([]T{mark}, 70)...)
	return long[:len(list)]
}

func roomyDevice(d api.Device) api.Device { return api.Device{Data: spared(d.Data, 77)} }

func roomyWrites(l []api.Put) []api.Put {
	var list []api.Put
	for _, p := range l {
		list = append(list, api.Put{N: p.N, Data: spared(p.Data, 88)})
	}
	return spared(list, api.Put{N: 99, Data: []byte{99}})
}

// room are a list's bytes and those in its spare room, copied.
func room(b []byte) []byte { return slices.Clone(b[:cap(b)]) }

func roomOf(l []api.Put) []api.Put {
	var list []api.Put
	for _, p := range l[:cap(l)] {
		list = append(list, api.Put{N: p.N, Data: room(p.Data)})
	}
	return list
}

func samePuts(a, b []api.Put) bool {
	return slices.EqualFunc(a, b, func(p, q api.Put) bool { return p.N == q.N && bytes.Equal(p.Data, q.Data) })
}

// scribble turns each byte of a list, its spare room too.
func scribble(b []byte) {
	b = b[:cap(b)]
	for i := range b {
		b[i] ^= 255
	}
}

// P18.4, R2: what is handed in is as it was behind each call, its spare room too, with an error and without; what stands in that room counts for nothing; and the same call tells the same again.
func TestWhatIsHandedIn(t *testing.T) {
	for _, bare := range append(devicesAround()[:14], marked(1), marked(2), marked(3), marked(64)) {
		d := roomyDevice(bare)
		was := room(d.Data)
		for _, list := range lists(bare) {
			l := roomyWrites(list)
			wasPuts := roomOf(l)
			for range 2 {
				for _, whole := range wholesAround(l) {
					for _, torn := range []int{-1, 0, 1, 63, 64, 65} {
						hold(t, d, l, whole, torn)
					}
				}
				for _, p := range l {
					holdWrite(t, d, p.N, p.Data)
					holdRead(t, d, p.N)
				}
			}
			if !samePuts(roomOf(l), wasPuts) {
				t.Fatal("writes changed", len(bare.Data), len(l))
			}
			if !bytes.Equal(room(d.Data), was) {
				t.Fatal("device changed", len(bare.Data), len(l))
			}
		}
		many, e := Many(d)
		check, alike := Check(d), Same(d, bare)
		if again, f := Many(d); again != many || f != e || Check(d) != check || !alike || !Same(bare, d) || !bytes.Equal(room(d.Data), was) {
			t.Error(len(bare.Data), many, e, check, alike)
		}
	}
}

// answers are all the devices that calls tell of a device and writes that may be on it, and all the blocks.
func answers(t *testing.T, d api.Device, l []api.Put) [][]byte {
	t.Helper()
	many := len(d.Data) / 64
	fresh, e := New(many)
	if e != api.OK {
		t.Fatal(e)
	}
	list := [][]byte{fresh.Data}
	for n := range many {
		b, e := Read(d, n)
		if e != api.OK {
			t.Fatal(e)
		}
		list = append(list, b)
	}
	for _, p := range l {
		next, e := Write(d, p.N, p.Data)
		if e != api.OK {
			t.Fatal(e)
		}
		list = append(list, next.Data)
	}
	for whole := range len(l) + 1 {
		for _, torn := range []int{0, 1, 64} {
			next, e := Do(d, l, whole, torn)
			if e != api.OK {
				t.Fatal(e)
			}
			list = append(list, next.Data)
		}
	}
	return list
}

func copies(list [][]byte) [][]byte {
	var all [][]byte
	for _, b := range list {
		all = append(all, slices.Clone(b))
	}
	return all
}

func sameLists(a, b [][]byte) bool { return slices.EqualFunc(a, b, bytes.Equal) }

// P18.4: what is written into an answer, and behind it, is seen neither in what was handed in, nor in another answer, nor in what a later call answers; what is written into what was handed in is not seen in an answer.
func TestNewMemory(t *testing.T) {
	source := rand.New(rand.NewPCG(18, 10))
	for i := range 40 {
		many := 1 + i%5
		bare, l := someDevice(source, many), roomyWrites(someWrites(source, many, 6))
		for _, d := range []api.Device{bare, roomyDevice(bare)} {
			wasDevice, wasPuts := room(d.Data), roomOf(l)
			first, second := answers(t, d, l), answers(t, d, l)
			want := copies(second)
			for k, b := range first {
				scribble(b)
				for other := k + 1; other < len(first); other++ {
					if !bytes.Equal(first[other], want[other]) {
						t.Fatal("two answers share memory", k, other)
					}
				}
			}
			if !sameLists(second, want) {
				t.Fatal("answers of two calls share memory")
			}
			if !bytes.Equal(room(d.Data), wasDevice) || !samePuts(roomOf(l), wasPuts) {
				t.Fatal("an answer shares memory with what was handed in")
			}
			if !sameLists(answers(t, d, l), want) {
				t.Fatal("kept")
			}
			scribble(d.Data)
			for _, p := range l {
				scribble(p.Data)
			}
			if !sameLists(second, want) {
				t.Fatal("what was handed in is kept in an answer")
			}
			copy(d.Data[:cap(d.Data)], wasDevice)
			for _, p := range l {
				scribble(p.Data)
			}
		}
	}
}

// P18.4: no writes, none of them done, and a write of what stands there already tell new memory, too.
func TestNewMemoryOfWhatStays(t *testing.T) {
	for _, many := range []int{1, 2, 64} {
		was := marked(many)
		for i, call := range []func(d api.Device) (api.Device, api.Errno){
			func(d api.Device) (api.Device, api.Errno) { return Do(d, nil, 0, 0) },
			func(d api.Device) (api.Device, api.Errno) { return Do(d, nil, 0, 64) },
			func(d api.Device) (api.Device, api.Errno) { return Do(d, writes(0), 0, 0) },
			func(d api.Device) (api.Device, api.Errno) { return Write(d, 0, filled(100)) },
			func(d api.Device) (api.Device, api.Errno) { return Write(d, 0, d.Data[:64]) },
		} {
			d := marked(many)
			got, e := call(d)
			if e != api.OK || !same(got, was) {
				t.Fatal(i, many, e)
			}
			scribble(got.Data)
			if !same(d, was) {
				t.Error("shared", i, many)
			}
		}
	}
}

// P18.3, P18.4: writes whose bytes are those of the device itself, or of one another, write what was handed in, not what is written by then.
func TestWritesOutOfTheDevice(t *testing.T) {
	d := marked(3)
	swap := []api.Put{{N: 0, Data: d.Data[64:128]}, {N: 1, Data: d.Data[:64]}, {N: 2, Data: d.Data[32:96]}}
	apart := []api.Put{{N: 0, Data: filled(101)}, {N: 1, Data: filled(100)}, {N: 2, Data: append(filled(100)[32:], filled(101)[:32]...)}}
	for whole := range 4 {
		for torn := range 65 {
			if got := well(t, d, swap, whole, torn); !same(got, well(t, marked(3), apart, whole, torn)) {
				t.Fatal(whole, torn)
			}
			if !same(d, marked(3)) {
				t.Fatal("changed", whole, torn)
			}
		}
	}
	b := filled(1)
	if got := well(t, d, []api.Put{{N: 0, Data: b}, {N: 1, Data: b}, {N: 2, Data: b}}, 2, 5); !same(got, device(slices.Concat(b, b, b[:5], filled(102)[5:])...)) {
		t.Error(got)
	}
	if !bytes.Equal(b, filled(1)) {
		t.Error("changed", b)
	}
}
