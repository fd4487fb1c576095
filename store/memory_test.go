package store

import (
	"bytes"
	"math/rand/v2"
	"slices"
	"testing"

	"stopline/api"
)

// spared is a list with spare room behind it, filled so that a write there is seen.
func spared[T any](list []T, mark T) []T {
	long := append(slices.Clone(list), slices.Repeat([]T{mark}, 70)...)
	return long[:len(list)]
}

func roomyPlans(l []api.Plan) []api.Plan {
	list := []api.Plan{}
	for _, p := range l {
		p.Splits = spared(p.Splits, 7000)
		list = append(list, p)
	}
	return spared(list, planOf(7000, 0, 7000))
}

func roomyDevice(d api.Device) api.Device { return api.Device{Data: spared(d.Data, 77)} }

// room is a list and what stands in its spare room, copied.
func room[T any](list []T) []T { return slices.Clone(list[:cap(list)]) }

func roomOfPlans(l []api.Plan) []api.Plan {
	var list []api.Plan
	for _, p := range l[:cap(l)] {
		p.Splits = room(p.Splits)
		list = append(list, p)
	}
	return list
}

// P19.4, R2: what is handed in is as it was behind each call, its spare room too, with an error and without; what stands in that room counts for nothing; and the same call tells the same again.
func TestWhatIsHandedIn(t *testing.T) {
	devices := append(oddDevices(), deviceOf(noughts(1)), deviceOf(noughts(5)), deviceOf(slotOfKept(t, 7, 2, plansOf(40), 2), noughts(2)), deviceOf(slotOfKept(t, 7, 2, plansOf(40), 1), slotOfKept(t, 8, 1, plansOf(12), 1)), deviceOf(noughts(6), slotOfKept(t, last, 3, plansOf(248), 6)))
	for _, bare := range devices {
		d := roomyDevice(bare)
		wasDevice := room(d.Data)
		for _, list := range append(plansAround(), plansOf(60), plansOf(200)) {
			l := roomyPlans(list)
			wasPlans := roomOfPlans(l)
			for range 2 {
				for _, mode := range modesAround() {
					holdPut(t, d, mode, l)
				}
				for _, many := range manyAround() {
					for _, gen := range []int{0, 1, last, last + 1} {
						holdBlocks(t, api.Kept{Gen: gen, Mode: 3, Plans: l}, many)
					}
				}
			}
			if !samePlans(roomOfPlans(l), wasPlans) {
				t.Fatal("plans changed", len(bare.Data), len(list))
			}
		}
		for range 2 {
			holdRead(t, d)
			for _, i := range slotsAround() {
				holdSlot(t, d, i)
			}
		}
		if !bytes.Equal(room(d.Data), wasDevice) {
			t.Fatal("device changed", len(bare.Data))
		}
	}
}

// answered is all that the calls answer of a device, and of what is put on it.
type answered struct {
	bytes [][]byte // of a new device, of writes, of blocks
	kept  []api.Kept
	puts  []api.Put
}

func answers(t *testing.T, d api.Device, mode uint8, l []api.Plan) answered {
	t.Helper()
	n := len(d.Data) / 64
	var a answered
	var e, f, g api.Errno
	fresh := formatted(t, n)
	if a.puts, e = Put(d, mode, l); e != api.OK {
		t.Fatal(e)
	}
	if a.bytes, e = Blocks(api.Kept{Gen: 9, Mode: mode, Plans: l}, n/2); e != api.OK {
		t.Fatal(e)
	}
	a.bytes = append(a.bytes, fresh.Data)
	for _, p := range a.puts {
		a.bytes = append(a.bytes, p.Data)
	}
	a.kept = make([]api.Kept, 3)
	a.kept[0], e = Read(d)
	a.kept[1], f = Slot(d, 0)
	a.kept[2], g = Slot(d, 1)
	if e != api.OK || f != api.OK || g != api.OK {
		t.Fatal(e, f, g)
	}
	return a
}

func (a answered) copied() answered {
	var c answered
	for _, b := range a.bytes {
		c.bytes = append(c.bytes, slices.Clone(b))
	}
	for _, k := range a.kept {
		k.Plans = copiedPlans(k.Plans)
		c.kept = append(c.kept, k)
	}
	c.puts = slices.Clone(a.puts)
	return c
}

func copiedPlans(l []api.Plan) []api.Plan {
	var list []api.Plan
	for _, p := range l {
		p.Splits = slices.Clone(p.Splits)
		list = append(list, p)
	}
	return list
}

func (a answered) is(b answered) bool {
	return sameLists(a.bytes, b.bytes) && slices.EqualFunc(a.kept, b.kept, sameKept) && slices.EqualFunc(a.puts, b.puts, func(p, q api.Put) bool { return p.N == q.N })
}

// scribble writes another thing into each place of a list, its spare room too.
func scribble[T any](list []T, other func(T) T) {
	for i, x := range list[:cap(list)] {
		list[:cap(list)][i] = other(x)
	}
}

func otherByte(b byte) byte { return ^b }

func otherPlan(p api.Plan) api.Plan {
	scribble(p.Splits, func(n int) int { return n + 1 })
	return api.Plan{Cycle: p.Cycle + 1, Offset: p.Offset + 1, Splits: p.Splits}
}

// scribbles are one for each list of an answer: the bytes, the plans of what is kept, and the writes.
func (a answered) scribbles() []func() {
	var list []func()
	for _, b := range a.bytes {
		list = append(list, func() { scribble(b, otherByte) })
	}
	for _, k := range a.kept {
		list = append(list, func() { scribble(k.Plans, otherPlan) })
	}
	return append(list, func() { scribble(a.puts, func(p api.Put) api.Put { return api.Put{N: p.N + 1} }) })
}

// P19.4: what is written into an answer, and behind it, is seen neither in what was handed in, nor in another list of an answer, nor in what a later call answers; what is written into what was handed in is not seen in an answer.
func TestNewMemory(t *testing.T) {
	source := rand.New(rand.NewPCG(19, 30))
	for i := range 60 {
		many := 1 + i%6
		bare := deviceOf(slotOfKept(t, 5+i%3, 1, somePlans(source, many), many), slotOfKept(t, 6, 2, somePlans(source, many), many))
		if i%2 == 0 {
			bare.Data = append(bare.Data, noughts(1)...)
		}
		bareMode, bareList := uint8(i%4), somePlans(source, many)
		d, l := roomyDevice(bare), roomyPlans(bareList)
		wasDevice, wasPlans := room(d.Data), roomOfPlans(l)
		second := answers(t, d, bareMode, l)
		want := second.copied()
		for k := range second.scribbles() {
			first := answers(t, d, bareMode, l)
			first.scribbles()[k]()
			again := first.copied()
			changed := 0
			for at, b := range again.bytes {
				if !bytes.Equal(b, want.bytes[at]) {
					changed++
				}
			}
			for at, kept := range again.kept {
				if !sameKept(kept, want.kept[at]) {
					changed++
				}
			}
			if changed > 1 {
				t.Fatal("two lists of answers share memory", k, changed)
			}
			if !second.is(want) {
				t.Fatal("answers of two calls share memory", k)
			}
		}
		if !bytes.Equal(room(d.Data), wasDevice) || !samePlans(roomOfPlans(l), wasPlans) {
			t.Fatal("an answer shares memory with what was handed in")
		}
		if !answers(t, d, bareMode, l).is(want) {
			t.Fatal("kept")
		}
		scribble(d.Data, otherByte)
		scribble(l, otherPlan)
		if !second.is(want) {
			t.Fatal("what was handed in is kept in an answer")
		}
	}
}

// P19.4: the splits of one plan that is told share no memory with those of another one.
func TestNewMemoryOfSplits(t *testing.T) {
	source := rand.New(rand.NewPCG(19, 31))
	for range 200 {
		many := 1 + source.IntN(6)
		l := somePlans(source, many)
		d := deviceOf(slotOfKept(t, 5, 1, l, many), noughts(many))
		for i := range l {
			k, e := Read(d)
			if e != api.OK {
				t.Fatal(e)
			}
			scribble(k.Plans[i].Splits, func(n int) int { return n + 1 })
			k.Plans[i].Splits = l[i].Splits
			if !samePlans(k.Plans, l) {
				t.Fatal("two plans share memory", i, k.Plans, l)
			}
		}
	}
}
