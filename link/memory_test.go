package link

import (
	"bytes"
	"slices"
	"testing"

	"stopline/api"
)

// spared is a list with spare room behind it, filled so that a write there is seen.
func spared[T any](list []T, mark T) []T {
	long := append(slices.Clone(list), slices.Repeat([]T{mark}, 70)...)
	return long[:len(list)]
}

func roomyMessages(l []api.Message) []api.Message {
	var list []api.Message
	for _, m := range l {
		m.Body = spared(m.Body, 99)
		list = append(list, m)
	}
	return spared(list, api.Message{Kind: 9, Seq: lastSeq, Body: make([]byte, 600)})
}

// room is a list and what stands in its spare room, copied.
func room[T any](list []T) []T { return slices.Clone(list[:cap(list)]) }

func roomOfMessages(l []api.Message) []api.Message {
	var list []api.Message
	for _, m := range l[:cap(l)] {
		m.Body = room(m.Body)
		list = append(list, m)
	}
	return list
}

// scribble writes another thing into each place of a list, its spare room too.
func scribble[T any](list []T, other func(T) T) {
	for i, x := range list[:cap(list)] {
		list[:cap(list)][i] = other(x)
	}
}

func otherByte(b byte) byte { return ^b }

func otherMessage(m api.Message) api.Message {
	return api.Message{Kind: m.Kind + 1, Seq: m.Seq + 1, Body: []byte{1}}
}

func copiedMessages(l []api.Message) []api.Message {
	var list []api.Message
	for _, m := range l {
		m.Body = bytes.Clone(m.Body)
		list = append(list, m)
	}
	return list
}

// P20.4, R2: what is handed in is as it was behind each call, its spare room too, with an error and without; what stands in that room counts for nothing; and the same call tells the same again.
func TestWhatIsHandedIn(t *testing.T) {
	for _, list := range append(listsAround(), numbered(5, 7, 6, 7, 9), numbered(9, 8, 7)) {
		got := roomyMessages(list)
		was := roomOfMessages(got)
		for range 2 {
			for _, l := range []api.Link{{}, {Any: true, Last: 6, Age: 3}, {Any: true, Last: lastSeq, Age: ticks}, {Last: 1}} {
				holdNext(t, l, got)
			}
		}
		if !sameMessages(roomOfMessages(got), was) {
			t.Fatal("messages changed", len(list))
		}
	}
	for _, c := range plansAround() {
		c.Splits = spared(c.Splits, 7000)
		was := room(c.Splits)
		for range 2 {
			for _, c.Site = range []int{-1, 3} {
				holdCommand(t, c)
			}
		}
		if !slices.Equal(room(c.Splits), was) {
			t.Fatal("splits changed", c)
		}
	}
	for _, r := range reportsAround() {
		r.Loads = spared(r.Loads, 7000)
		was := room(r.Loads)
		for range 2 {
			holdReport(t, r)
		}
		if !slices.Equal(room(r.Loads), was) {
			t.Fatal("loads changed", r)
		}
	}
	commands, reports := bodies()
	for _, whole := range slices.Concat(commands, reports) {
		for _, bare := range [][]byte{whole, whole[:len(whole)-1], append(bytes.Clone(whole), 1), {}} {
			b := spared(bare, 1)
			was := room(b)
			for range 2 {
				holdRead(t, b)
			}
			if !bytes.Equal(room(b), was) {
				t.Fatal("bytes changed", bare)
			}
		}
	}
}

// sharing are messages whose bodies lie in the same bytes, and these.
func sharing(list ...uint32) ([]api.Message, []byte) {
	body := spared([]byte{1, 2, 3, 4, 5, 6, 7, 8}, 99)
	var l []api.Message
	for i, n := range list {
		l = append(l, api.Message{Kind: 2, Seq: n, Body: body[i%3:]})
	}
	return l, body
}

// P20.4: the bodies of what is taken are new memory, each one's its own, also where those that come share theirs.
func TestNewMemoryOfMessages(t *testing.T) {
	got, body := sharing(5, 7, 6, 7, 8, 9)
	was, wasBody := copiedMessages(got), room(body)
	before := api.Link{Any: true, Last: 4, Age: 2}
	_, second, e := Next(before, got)
	if e != api.OK || len(second) != 4 {
		t.Fatal(second, e)
	}
	want := copiedMessages(second)
	for i := range second {
		_, first, _ := Next(before, got)
		scribble(first[i].Body, otherByte)
		for k, m := range first {
			if k != i && !bytes.Equal(m.Body, want[k].Body) {
				t.Fatal("two bodies share memory", i, k)
			}
		}
		scribble(first, otherMessage)
		if !sameMessages(second, want) {
			t.Fatal("answers of two calls share memory", i)
		}
	}
	if !sameMessages(got, was) || !bytes.Equal(room(body), wasBody) {
		t.Fatal("an answer shares memory with what was handed in")
	}
	if _, again, e := Next(before, got); e != api.OK || !sameMessages(again, want) {
		t.Fatal("another answer", again, e)
	}
	scribble(body, otherByte)
	scribble(got, otherMessage)
	if !sameMessages(second, want) {
		t.Fatal("an answer shares memory with what was handed in")
	}
}

// P20.4: so are the messages themselves where all of them are taken, and where a body is empty but has room.
func TestNewMemoryWhereAllAreTaken(t *testing.T) {
	got := roomyMessages(numbered(1, 2, 3, 4, 5, 6))
	for i := range got {
		if i%2 == 0 {
			got[i].Body = got[i].Body[:0]
		}
	}
	was := roomOfMessages(got)
	_, taken, e := Next(api.Link{}, got)
	want := copiedMessages(taken)
	if e != api.OK || !sameMessages(taken, got) {
		t.Fatal(taken, e)
	}
	for _, m := range taken {
		scribble(m.Body, otherByte)
	}
	scribble(taken, otherMessage)
	if !sameMessages(roomOfMessages(got), was) {
		t.Fatal("what was handed in changed")
	}
	_, taken, _ = Next(api.Link{}, got)
	for _, m := range got {
		scribble(m.Body, otherByte)
	}
	scribble(got, otherMessage)
	if !sameMessages(taken, want) {
		t.Fatal("an answer changed")
	}
}

// holdNewMemory writes a body that has this list, and reads it again, and holds that neither shares memory with anything.
func holdNewMemory[N int | int64](t *testing.T, list []N, write func() []byte, read func(b []byte) []N) {
	t.Helper()
	other := func(n N) N { return n + 1 }
	was := room(list)
	first, second := write(), write()
	want := bytes.Clone(second)
	scribble(first, otherByte)
	if !bytes.Equal(second, want) || !slices.Equal(room(list), was) {
		t.Error("written into bytes", second, list)
	}
	scribble(list, other)
	if !bytes.Equal(second, want) {
		t.Error("written into what was handed in", second)
	}
	told, again := read(second), read(second)
	scribble(told, other)
	if !slices.Equal(again, was[:len(list)]) || !bytes.Equal(second, want) {
		t.Error("written into what was read", again, second)
	}
	scribble(second, otherByte)
	if !slices.Equal(again, was[:len(list)]) {
		t.Error("written into the bytes that were handed in", again)
	}
}

// P20.4: bytes, splits and loads that are told are new memory.
func TestNewMemoryOfBodies(t *testing.T) {
	c, r := commandOf(3, 300, 7, 200, 100, 5), reportOf(3, 2, 9, 5, 6, 7, 8)
	c.Splits, r.Loads = spared(c.Splits, 7000), spared(r.Loads, 7000)
	holdNewMemory(t, c.Splits, func() []byte {
		b, e := Command(c)
		if e != api.OK {
			t.Fatal(e)
		}
		return b
	}, func(b []byte) []int {
		again, e := OfCommand(b)
		if e != api.OK {
			t.Fatal(e)
		}
		return again.Splits
	})
	holdNewMemory(t, r.Loads, func() []byte {
		b, e := Report(r)
		if e != api.OK {
			t.Fatal(e)
		}
		return b
	}, func(b []byte) []int64 {
		again, e := OfReport(b)
		if e != api.OK {
			t.Fatal(e)
		}
		return again.Loads
	})
}
