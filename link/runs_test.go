package link

import (
	"math/rand/v2"
	"slices"
	"testing"

	"stopline/api"
)

// run is many ticks: all that came, all that was taken, and when that was last.
type run struct {
	link  api.Link
	came  []uint32
	taken []uint32
	ago   int // ticks since something was taken, or since the beginning; never stopped
}

// tick holds a tick against the slow reading, and what is taken against all that ever came: a message is taken just if it is above all of these.
func (x *run) tick(t *testing.T, got []api.Message) {
	t.Helper()
	next, taken, e := holdNext(t, x.link, got)
	if e != api.OK {
		t.Fatal(x.link, got, e)
	}
	var want []uint32
	for _, n := range numbers(got) {
		if len(x.came) == 0 || n > slices.Max(x.came) {
			want = append(want, n)
		}
		x.came = append(x.came, n)
	}
	if !slices.Equal(numbers(taken), want) {
		t.Fatal("taken", numbers(taken), "not", want, "behind", x.link)
	}
	x.ago++
	if len(taken) > 0 {
		x.ago = 0
	}
	x.link, x.taken = next, append(x.taken, want...)
	x.hold(t)
}

// hold asks how the link stands: the numbers of what was taken rise, so nothing is taken twice.
func (x *run) hold(t *testing.T) {
	t.Helper()
	for i := 1; i < len(x.taken); i++ {
		if x.taken[i] <= x.taken[i-1] {
			t.Fatal("they do not rise", x.taken)
		}
	}
	want := api.Link{Any: len(x.came) > 0, Age: min(x.ago, ticks)}
	if want.Any {
		want.Last = slices.Max(x.came)
	}
	if x.link != want {
		t.Fatal(x.link, "not", want)
	}
	for _, watch := range []int{1, 2, 3, x.ago, x.ago + 1, ticks - 1, ticks} {
		if watch < 1 || watch > ticks {
			continue
		}
		is, e := holdFresh(t, x.link, watch)
		if e != api.OK || is != (want.Any && x.ago < watch) {
			t.Fatal("fresh", x.link, x.ago, watch, is, e)
		}
	}
}

// lists are all lists of at most so many numbers below a bound.
func lists(many int, bound uint32) [][]uint32 {
	all := [][]uint32{nil}
	for from := 0; many > 0; many-- {
		to := len(all)
		for _, l := range all[from:to] {
			for n := range bound {
				all = append(all, append(slices.Clip(l), n))
			}
		}
		from = to
	}
	return all
}

// P20.1, P20.5: every short list of numbers, in every way to cut it into ticks, from no message on: what is taken does not mind the cuts.
func TestEveryShortListInEveryWay(t *testing.T) {
	for _, list := range lists(5, 4) {
		whole := run{}
		whole.tick(t, numbered(list...))
		for cuts := range 1 << max(0, len(list)-1) {
			x := run{}
			from := 0
			for to := range len(list) + 1 {
				if to == len(list) || cuts>>max(0, to-1)&1 == 1 && to > 0 {
					x.tick(t, numbered(list[from:to]...))
					from = to
				}
			}
			if !slices.Equal(x.taken, whole.taken) || x.link.Last != whole.link.Last {
				t.Fatal(list, cuts, x.taken, whole.taken)
			}
		}
	}
}

// someNumbers are numbers as links bring them: in order, out of order, twice, all old, all new, none.
func someNumbers(source *rand.Rand, last uint32) []uint32 {
	many := source.IntN(12)
	list := make([]uint32, many)
	kind := source.IntN(7)
	for i := range list {
		switch kind {
		case 0: // all old
			list[i] = uint32(source.Int64N(int64(last) + 1))
		case 1: // all new, and in order: but for the end of the numbers, where they come twice
			list[i] = last + min(uint32(i+1), lastSeq-last)
		case 2: // near the last one
			list[i] = uint32(max(0, min(lastSeq, int64(last)+source.Int64N(9)-4)))
		case 3: // twice
			list[i] = last + min(uint32(i/2), lastSeq-last)
		case 4:
			list[i] = source.Uint32() >> source.IntN(32)
		case 5: // out of order
			list[i] = last + min(uint32(many-i), lastSeq-last)
		default:
			return nil
		}
	}
	return list
}

// P20.1: many links and many lists of messages.
func TestNextOfManyLinks(t *testing.T) {
	source := rand.New(rand.NewPCG(20, 10))
	for range 60000 {
		l := api.Link{Any: source.IntN(8) > 0, Age: []int{0, source.IntN(9), ticks - source.IntN(3), source.IntN(ticks)}[source.IntN(4)]}
		if l.Any {
			l.Last = []uint32{0, lastSeq, lastSeq - source.Uint32N(9), source.Uint32() >> source.IntN(32)}[source.IntN(4)]
		}
		holdNext(t, l, numbered(someNumbers(source, l.Last)...))
	}
}

// P20.5: runs of many ticks, from no message on.
func TestRuns(t *testing.T) {
	source := rand.New(rand.NewPCG(20, 11))
	for range 150 {
		x := run{}
		for range 120 {
			list := someNumbers(source, x.link.Last)
			if source.IntN(3) == 0 {
				list = nil
			}
			x.tick(t, numbered(list...))
		}
	}
}

// P20.5: messages that come in order, each once, are all taken, however they are cut into ticks, and whatever comes again among them is not.
func TestInOrder(t *testing.T) {
	source := rand.New(rand.NewPCG(20, 12))
	for i := range 200 {
		var sent []uint32
		n := uint32(0)
		for range 300 {
			n += 1 + source.Uint32N(1+1<<(i%24))>>1
			sent = append(sent, n)
		}
		l := api.Link{}
		var taken []uint32
		for from := 0; from < len(sent); {
			to := min(len(sent), from+source.IntN(7))
			got := slices.Clone(sent[from:to])
			if i%2 == 1 && from > 0 { // what came comes again, at any place
				for range source.IntN(5) {
					got = slices.Insert(got, source.IntN(len(got)+1), sent[source.IntN(from)])
				}
			}
			next, now, e := holdNext(t, l, numbered(got...))
			if e != api.OK {
				t.Fatal(e)
			}
			l, taken, from = next, append(taken, numbers(now)...), to
		}
		if !slices.Equal(taken, sent) {
			t.Fatal(i, len(taken), len(sent))
		}
	}
}

// P20.2, P20.5: what is sent with the numbers that Send tells is all taken, up to the last number.
func TestSentInOrder(t *testing.T) {
	for _, last := range []uint32{0, 254, 65533, 1<<31 - 3, lastSeq - 5} {
		l := api.Link{Any: last > 0, Last: last}
		for range 5 {
			n, e := Send(last)
			if e != api.OK {
				t.Fatal(last, e)
			}
			next, taken, e := holdNext(t, l, numbered(n, n, last))
			if e != api.OK || len(taken) != 1 || taken[0].Seq != n {
				t.Fatal(n, taken, e)
			}
			l, last = next, n
		}
	}
	if l, taken, e := Next(api.Link{Any: true, Last: lastSeq}, numbered(0, 1, lastSeq)); e != api.OK || len(taken) != 0 || l.Age != 1 {
		t.Error(l, taken, e)
	}
}

// P20.5, W2: a link is fresh for just as many ticks as it is watched, from the one on in which something was taken; what is dropped does not keep it so, and Age stops.
func TestFreshForAsLongAsItIsWatched(t *testing.T) {
	for _, got := range [][]api.Message{nil, numbered(9), numbered(0, 9, 3, 9)} {
		l, taken, e := Next(api.Link{Any: true, Last: 5, Age: 77}, numbered(9))
		if e != api.OK || len(taken) != 1 {
			t.Fatal(l, e)
		}
		watches := []int{1, 2, 3, 1000, ticks - 1, ticks}
		fresh := make([]int, len(watches))
		for tick := range ticks + 9 {
			for i, watch := range watches {
				is, e := Fresh(l, watch)
				if e != api.OK || is != (tick < watch) {
					t.Fatal(tick, watch, is, e)
				}
				if is {
					fresh[i]++
				}
			}
			if l.Age != min(tick, ticks) {
				t.Fatal(tick, l)
			}
			if l, taken, e = Next(l, got); e != api.OK || len(taken) != 0 {
				t.Fatal(tick, l, taken, e)
			}
		}
		if !slices.Equal(fresh, watches) {
			t.Error(fresh, watches)
		}
		if l, _, e = Next(l, numbered(10)); e != api.OK || l != (api.Link{Any: true, Last: 10}) {
			t.Error(l, e)
		}
	}
}

// P20.2: without any message a link is never fresh, however short its Age, and however long it is watched.
func TestNeverFresh(t *testing.T) {
	l := api.Link{}
	for tick := range ticks + 3 {
		for _, watch := range []int{1, 2, ticks} {
			if is, e := Fresh(l, watch); is || e != api.OK {
				t.Fatal(tick, l, watch, e)
			}
		}
		next, taken, e := Next(l, nil)
		if e != api.OK || len(taken) != 0 || next != (api.Link{Age: min(tick+1, ticks)}) {
			t.Fatal(tick, next, e)
		}
		l = next
	}
}
