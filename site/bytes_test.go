package site

import (
	"bytes"
	"encoding/binary"
	"math"
	"math/rand/v2"
	"reflect"
	"slices"
	"testing"

	"stopline/api"
)

func readBad(t *testing.T, what string, b []byte) {
	t.Helper()
	if s, e := Read(b); !isNoSite(s) || e != api.ErrBad {
		t.Error(what, len(b), b, s, int(e))
	}
}

func partsBad(t *testing.T, what string, b []byte) {
	t.Helper()
	if l, e := Parts(b); len(l) != 0 || e != api.ErrBad {
		t.Error(what, len(b), b, l, int(e))
	}
}

// holdRead holds Read against the chapter's words, and tells whether b is a site's.
func holdRead(t *testing.T, b []byte) bool {
	t.Helper()
	want, well := slowRead(b)
	if !well {
		readBad(t, "Read", b)
		return false
	}
	if s, e := Read(b); e != api.OK || !sameSite(s, want) {
		t.Error("Read", b, s, int(e), "not", want)
	}
	return true
}

func holdParts(t *testing.T, b []byte) bool {
	t.Helper()
	want, well := slowParts(b)
	if !well {
		partsBad(t, "Parts", b)
		return false
	}
	if l, e := Parts(b); e != api.OK || !samePlans(l, want) {
		t.Error("Parts", b, l, int(e), "not", want)
	}
	return true
}

// P5.1, P5.5, W7
func TestWriteAndRead(t *testing.T) {
	for _, s := range sites() {
		b, e := Write(s)
		if e != api.OK || !bytes.Equal(b, slowBytes(s)) {
			t.Fatal("Write", b, int(e), s)
		}
		if again, e := Read(b); e != api.OK || !sameSite(again, s) {
			t.Fatal("Read", again, int(e), s)
		}
	}
}

// P5.1: the bytes of one site, number by number.
func TestBytesOfASite(t *testing.T) {
	want := summed([]byte{
		172, 2,
		3, 1, 5, 3, 2, 7, 4, 1, 6, 2,
		2, 5, 2,
		0, 9, 0, 10, 0, 11, 0, 13, 0,
		3, 5, 8, 200, 1, 14, 0, 2, 12, 15, 16, 1, 4, 17, 18, 19, 0,
		2, 2, 129, 1, 20, 21, 0, 22, 23, 24,
		25, 26, 27, 61, 232, 7,
		2, 61, 60, 3, 21, 23, 17, 232, 7, 0, 3, 144, 3, 222, 2, 250, 1,
	})
	if b, e := Write(three()); e != api.OK || !bytes.Equal(b, want) {
		t.Error(b, int(e), want)
	}
	if s, e := Read(want); e != api.OK || !sameSite(s, three()) {
		t.Error(s, int(e))
	}
}

// W7: what may not be has no bytes, and its bytes, had it some, are no site's.
func TestBytesOfWhatMayNotBe(t *testing.T) {
	chance := rand.New(rand.NewPCG(5, 5))
	for _, s := range []api.Site{three(), two(), greatest()} {
		numbers := ints(&s)
		for _, p := range numbers {
			old := *p
			for _, n := range []int{0, old + 1, old - 1, top, top + 1, 1 << 40, math.MaxInt} {
				if n < 0 {
					continue
				}
				if *p = n; len(numbers) > 100 && chance.IntN(4) > 0 {
					continue
				}
				b, e := Write(s)
				if well := holdRead(t, slowBytes(s)); well != (e == api.OK) || well != (len(b) > 0) {
					t.Error(n, well, int(e))
				}
			}
			*p = old
		}
	}
	for _, s := range []api.Site{{}, counted(17, 1, 0, 0), counted(0, 0, 0, 0), counted(2, 9, 0, 0), counted(2, 2, 25, 0), counted(2, 2, 0, 9), counted(2, 0, 0, 0)} {
		readBad(t, "counts", slowBytes(s))
	}
}

// P5.5: each byte at each place is the only one that may stand there.
func TestOneByteTurned(t *testing.T) {
	for _, s := range []api.Site{two(), three(), alone()} {
		b, _ := Write(s)
		for i := range b {
			for x := 1; x < 256; x++ {
				b[i] ^= byte(x)
				readBad(t, "turned", b)
				b[i] ^= byte(x)
			}
		}
	}
	b, _ := Write(greatest())
	for i := range b {
		for _, x := range []byte{1, 2, 64, 128, 255} {
			b[i] ^= x
			readBad(t, "turned", b)
			b[i] ^= x
		}
	}
}

// P5.1: too short, too long, another sum, no sum.
func TestBytesThatAreNoSites(t *testing.T) {
	readBad(t, "none", nil)
	readBad(t, "none", []byte{})
	for n := range 40 {
		readBad(t, "noughts", make([]byte, n))
		readBad(t, "noughts with their sum", summed(make([]byte, n)))
		readBad(t, "all bits", bytes.Repeat([]byte{255}, n))
	}
	for _, s := range []api.Site{two(), three(), alone(), greatest()} {
		b, _ := Write(s)
		told := b[:len(b)-4]
		for k := range b {
			readBad(t, "cut behind", b[:k])
			readBad(t, "cut ahead", b[k+1:])
			readBad(t, "cut, with its sum", summed(told[:min(k, len(told)-1)]))
		}
		for x := range 256 {
			readBad(t, "one behind", append(bytes.Clone(b), byte(x)))
			readBad(t, "one behind, ahead of the sum", summed(append(bytes.Clone(told), byte(x))))
			readBad(t, "one ahead", append([]byte{byte(x)}, b...))
		}
		readBad(t, "twice", append(bytes.Clone(b), b...))
		readBad(t, "twice, with its sum", summed(append(bytes.Clone(told), told...)))
		readBad(t, "its sum again", summed(b))
		readBad(t, "no sum", told)
		sum := binary.LittleEndian.Uint32(b[len(told):])
		readBad(t, "one more", binary.LittleEndian.AppendUint32(bytes.Clone(told), sum+1))
		readBad(t, "turned", binary.LittleEndian.AppendUint32(bytes.Clone(told), ^sum))
		readBad(t, "the highest byte first", binary.BigEndian.AppendUint32(bytes.Clone(told), sum))
	}
	readBad(t, "many", make([]byte, api.MaxText+1))
	readBad(t, "many with their sum", summed(make([]byte, 1<<20)))
}

// places are where the numbers of small bytes begin, and where the last one ends.
func places(told []byte) []int {
	list := []int{0}
	for at := 0; at < len(told); {
		_, k := binary.Uvarint(told[at:])
		at += k
		list = append(list, at)
	}
	return list
}

// wrongNumbers are bytes that are no number's, or not its fewest, or a number's that is far beyond n but has its lowest bits.
func wrongNumbers(n uint64) [][]byte {
	list := [][]byte{{128}, {128, 0}, {255, 128, 0}, bytes.Repeat([]byte{255}, 9), append(bytes.Repeat([]byte{255}, 9), 2), append(bytes.Repeat([]byte{128}, 9), 2), append(bytes.Repeat([]byte{255}, 10), 1)}
	longer := binary.AppendUvarint(nil, n)
	longer[len(longer)-1] |= 128
	list = append(list, append(bytes.Clone(longer), 0), append(bytes.Clone(longer), 128, 0))
	for _, more := range []uint64{1 << 31, 1 << 32, 1 << 33, 1 << 62, 1 << 63, 1<<63 | 1<<32} {
		list = append(list, binary.AppendUvarint(nil, n+more))
	}
	return append(list, binary.AppendUvarint(nil, math.MaxUint64), binary.AppendUvarint(nil, math.MaxUint64-n))
}

// P5.1: numbers that are not told in the fewest small bytes, and numbers beyond what an int or a kind holds, at each place, with the right sum.
func TestNumbersThatNoSiteHas(t *testing.T) {
	for _, s := range []api.Site{two(), three(), alone(), greatest()} {
		b, _ := Write(s)
		told := b[:len(b)-4]
		at := places(told)
		for i := range len(at) - 1 {
			n, _ := binary.Uvarint(told[at[i]:])
			for _, wrong := range wrongNumbers(n) {
				readBad(t, "a wrong number", summed(slices.Concat(told[:at[i]], wrong, told[at[i+1]:])))
			}
			for _, more := range []uint64{1, 2, 255, 256, 257, 512, 1 << 16, 1 << 20, 1<<20 + 1} {
				holdRead(t, summed(slices.Concat(told[:at[i]], binary.AppendUvarint(nil, n+more), told[at[i+1]:])))
			}
		}
	}
}

// P5.1: a kind, a set, a yes beyond what holds it, where what is left of it would do.
func TestNumbersBeyondWhatHoldsThem(t *testing.T) {
	b, _ := Write(three())
	told := b[:len(b)-4]
	at := places(told)
	for _, c := range []struct {
		place int
		n     uint64
	}{
		{0, 300 + 1<<32}, {0, 300 + 1<<16}, {1, 3 + 1<<8}, {1, 3 + 1<<32}, {1, 3 + 1<<63},
		{2, 257}, {2, 258}, {2, 1 + 1<<32}, {5, 258}, {3, 5 + 1<<32}, {4, 3 + 1<<63},
		{11, 2 + 1<<32}, {12, 5 + 1<<32}, {12, 5 + 1<<63}, {15, 9 + 1<<63},
		{23, 3 + 1<<32}, {24, 5 + 1<<32}, {28, 2}, {28, 3}, {28, 256}, {28, 257}, {28, 1 << 32}, {33, 2}, {33, 257}, {33, 1 + 1<<32}, {33, 1 + 1<<63},
	} {
		readBad(t, "beyond", summed(slices.Concat(told[:at[c.place]], binary.AppendUvarint(nil, c.n), told[at[c.place+1]:])))
	}
	for place, want := range map[int]bool{28: true, 33: false} {
		n := uint64(0)
		if want {
			n = 1
		}
		s, e := Read(summed(slices.Concat(told[:at[place]], binary.AppendUvarint(nil, n), told[at[place+1]:])))
		if e != api.OK || s.Phases[(place-28)/5].Always != want {
			t.Error(place, s, int(e))
		}
	}
}

// P5.1: other bytes with their right sum are read as what they tell, or are no site's.
func TestOtherBytesWithTheirSum(t *testing.T) {
	well := 0
	for _, s := range []api.Site{two(), three(), alone()} {
		b, _ := Write(s)
		told := b[:len(b)-4]
		for i := range told {
			for x := 1; x < 256; x++ {
				other := bytes.Clone(told)
				other[i] ^= byte(x)
				if holdRead(t, summed(other)) {
					well++
				}
			}
			holdRead(t, summed(slices.Delete(bytes.Clone(told), i, i+1)))
			holdRead(t, summed(slices.Insert(bytes.Clone(told), i, 0)))
			holdRead(t, summed(slices.Insert(bytes.Clone(told), i, 1)))
		}
	}
	if well < 1000 {
		t.Error("too few sites:", well)
	}
	chance := rand.New(rand.NewPCG(5, 6))
	for range 20000 {
		told := make([]byte, chance.IntN(60))
		for i := range told {
			told[i] = []byte{0, 1, 1, 2, 3, 5, 8, 127, 128, byte(chance.Uint32())}[chance.IntN(10)]
		}
		holdRead(t, summed(told))
		holdParts(t, told)
	}
}

// planEdges are plans, and whether each may be at all.
func planEdges() map[bool][]api.Plan {
	some, most := []int{3}, slices.Repeat([]int{top}, 8)
	return map[bool][]api.Plan{
		true: {
			{Cycle: 1, Offset: 0, Splits: []int{0}},
			{Cycle: 1, Offset: 0, Splits: some},
			{Cycle: top, Offset: top - 1, Splits: most},
			{Cycle: top, Offset: 0, Splits: some},
			{Cycle: 5, Offset: 4, Splits: make([]int, 8)},
			{Cycle: 5, Offset: 0, Splits: []int{top}},
			{Cycle: 300, Offset: 299, Splits: []int{200, 0, 127, 128}},
		},
		false: {
			{},
			{Cycle: 0, Splits: some},
			{Cycle: -1, Splits: some},
			{Cycle: -1, Offset: -2, Splits: some},
			{Cycle: top + 1, Splits: some},
			{Cycle: 1 << 32, Splits: some},
			{Cycle: math.MaxInt, Splits: some},
			{Cycle: math.MinInt, Splits: some},
			{Cycle: math.MinInt, Offset: 5, Splits: some},
			{Cycle: 5, Offset: -1, Splits: some},
			{Cycle: 5, Offset: 5, Splits: some},
			{Cycle: 1, Offset: 1, Splits: some},
			{Cycle: 5, Offset: 6, Splits: some},
			{Cycle: top, Offset: top, Splits: some},
			{Cycle: 5, Offset: math.MinInt, Splits: some},
			{Cycle: 5, Offset: math.MaxInt, Splits: some},
			{Cycle: 5},
			{Cycle: 5, Splits: []int{}},
			{Cycle: 5, Splits: make([]int, 9)},
			{Cycle: 5, Splits: make([]int, 1<<16)},
			{Cycle: 5, Splits: []int{-1}},
			{Cycle: 5, Splits: []int{1, 2, 1 - top, 3}},
			{Cycle: 5, Splits: []int{top + 1}},
			{Cycle: 5, Splits: append(make([]int, 7), -1)},
			{Cycle: 5, Splits: append(make([]int, 7), top+1)},
			{Cycle: 5, Splits: []int{math.MinInt}},
			{Cycle: 5, Splits: []int{math.MaxInt, 1}},
		},
	}
}

// P5.3: each condition of a plan that may be at all, at its edges and beyond; alone, and behind and ahead of others.
func TestPlansThatMayBeAtAll(t *testing.T) {
	good := api.Plan{Cycle: 9, Offset: 2, Splits: []int{4, 5}}
	for want, list := range planEdges() {
		for i, p := range list {
			if slowAtAll(p) != want {
				t.Fatal("the test's own plan", want, i)
			}
			for _, l := range [][]api.Plan{{p}, {good, p}, {p, good}, append(slices.Repeat([]api.Plan{good}, 7), p)} {
				b, e := Whole(l)
				if !want {
					if len(b) != 0 || e != api.ErrPlan {
						t.Error(i, b, int(e))
					}
					continue
				}
				if e != api.OK || !bytes.Equal(b, varints(slowPlanNumbers(l)...)) {
					t.Error(i, b, int(e))
				}
				if m, e := Parts(b); e != api.OK || !samePlans(m, l) {
					t.Error(i, m, int(e))
				}
			}
		}
	}
}

// P5.3: what has bytes but may not be at all.
func TestPartsOfWhatMayNotBeAtAll(t *testing.T) {
	for _, p := range planEdges()[false] {
		if len(p.Splits) < 100 {
			partsBad(t, "at all", varints(slowPlanNumbers([]api.Plan{p})...))
		}
	}
}

// P5.3, and the limit: how many there are is asked first.
func TestHowManyPlans(t *testing.T) {
	good, bad := api.Plan{Cycle: 9, Splits: []int{4}}, api.Plan{}
	for n := range 20 {
		l := slices.Repeat([]api.Plan{good}, n)
		want := api.OK
		if n > 8 {
			want = api.ErrMany
		}
		b, e := Whole(l)
		if e != want || n > 8 && len(b) != 0 {
			t.Error(n, b, int(e))
		}
		told := varints(slowPlanNumbers(l)...)
		if m, e := Parts(told); n <= 8 && (e != api.OK || !samePlans(m, l)) {
			t.Error(n, m, int(e))
		}
		if n > 8 {
			partsBad(t, "too many", told)
			if b, e := Whole(append(l, bad)); len(b) != 0 || e != api.ErrMany {
				t.Error(n, b, int(e))
			}
		}
	}
	if b, e := Whole(make([]api.Plan, 9)); len(b) != 0 || e != api.ErrMany {
		t.Error(b, int(e))
	}
	if b, e := Whole(make([]api.Plan, 1<<20)); len(b) != 0 || e != api.ErrMany {
		t.Error(b, int(e))
	}
	for _, l := range [][]api.Plan{nil, {}} {
		if b, e := Whole(l); !bytes.Equal(b, []byte{0}) || e != api.OK {
			t.Error(b, int(e))
		}
	}
	if l, e := Parts([]byte{0}); len(l) != 0 || e != api.OK {
		t.Error(l, int(e))
	}
}

// atAll is some plans that may be at all.
func atAll(chance *rand.Rand) []api.Plan {
	l := make([]api.Plan, chance.IntN(9))
	for i := range l {
		l[i].Cycle = 1 + chance.IntN(1<<chance.IntN(21))
		l[i].Offset = chance.IntN(l[i].Cycle)
		for range 1 + chance.IntN(8) {
			l[i].Splits = append(l[i].Splits, chance.IntN(1<<chance.IntN(21)+1))
		}
	}
	return l
}

// P5.3, P5.5, W7
func TestWholeAndParts(t *testing.T) {
	chance := rand.New(rand.NewPCG(5, 7))
	for range 500 {
		l := atAll(chance)
		b, e := Whole(l)
		if e != api.OK || !bytes.Equal(b, varints(slowPlanNumbers(l)...)) {
			t.Fatal("Whole", l, b, int(e))
		}
		if m, e := Parts(b); e != api.OK || !samePlans(m, l) {
			t.Fatal("Parts", l, m, int(e))
		}
		for k := range b {
			holdParts(t, b[:k])
			holdParts(t, b[k+1:])
			for x := 1; x < 256; x += 1 + chance.IntN(40) {
				other := bytes.Clone(b)
				other[k] ^= byte(x)
				holdParts(t, other)
			}
		}
	}
	for _, s := range sites() {
		b, _ := Write(s)
		plans, _ := Whole(s.Plans)
		if !bytes.HasSuffix(b[:len(b)-4], plans) {
			t.Error("a site's bytes do not end with those of its plans", s)
		}
	}
}

// P5.3: too short, too long, and numbers that no plan has.
func TestBytesThatAreNoPlans(t *testing.T) {
	l := three().Plans
	b, _ := Whole(l)
	partsBad(t, "none", nil)
	partsBad(t, "none", []byte{})
	for k := range b {
		partsBad(t, "cut", b[:k])
	}
	for x := range 256 {
		partsBad(t, "behind", append(bytes.Clone(b), byte(x)))
		partsBad(t, "behind none", []byte{0, byte(x)})
	}
	partsBad(t, "twice", append(bytes.Clone(b), b...))
	partsBad(t, "with a sum", summed(b))
	at := places(b)
	for i := range len(at) - 1 {
		n, _ := binary.Uvarint(b[at[i]:])
		for _, wrong := range wrongNumbers(n) {
			partsBad(t, "a wrong number", slices.Concat(b[:at[i]], wrong, b[at[i+1]:]))
		}
	}
	partsBad(t, "many", make([]byte, 1<<20))
	partsBad(t, "many", bytes.Repeat([]byte{255}, 1<<20))
}

// P5.4: bytes that are handed in stay as they were, and what was read does not hang on them.
func TestBytesAreOnlyRead(t *testing.T) {
	for _, s := range sites() {
		told, _ := Write(s)
		b := withRoom(told, 77)
		before := full(b)
		got, _ := Read(b)
		plans, _ := Whole(s.Plans)
		p := withRoom(plans, 77)
		parts, _ := Parts(p)
		if !bytes.Equal(before, full(b)) || !bytes.Equal(p, plans) || !bytes.Equal(full(p)[len(p):], []byte{77, 77, 77}) {
			t.Fatal("bytes were changed")
		}
		clear(b[:cap(b)])
		clear(p[:cap(p)])
		if !sameSite(got, s) || !samePlans(parts, s.Plans) {
			t.Fatal("an answer hangs on the bytes it was read from")
		}
	}
}

// lists are the numbers of each list of ints of a site, with its spare room.
func lists(s api.Site) [][]int {
	var all [][]int
	for _, row := range s.Between {
		all = append(all, row[:cap(row)])
	}
	return append(all, splits(s.Plans)...)
}

func splits(l []api.Plan) [][]int {
	var all [][]int
	for _, p := range l {
		all = append(all, p.Splits[:cap(p.Splits)])
	}
	return all
}

// holdLists writes through each list, and asks whether another one is changed by it.
func holdLists(t *testing.T, all [][]int) {
	t.Helper()
	for i, list := range all {
		before := make([][]int, len(all))
		for j := range all {
			before[j] = slices.Clone(all[j])
		}
		for k := range list {
			list[k] = -5
		}
		for j := range all {
			if j != i && !slices.Equal(before[j], all[j]) {
				t.Fatal("two lists share memory", i, j)
			}
		}
	}
}

// P5.4: what is answered is new memory, and no two lists of it share any.
func TestAnswersAreNewMemory(t *testing.T) {
	for _, s := range sites() {
		before := clone(s)
		b, _ := Write(s)
		other, _ := Write(s)
		kept := bytes.Clone(other)
		clear(b[:cap(b)])
		if !bytes.Equal(other, kept) || !sameSite(s, before) {
			t.Fatal("Write's answers share memory")
		}
		first, _ := Read(other)
		second, _ := Read(other)
		holdLists(t, lists(first))
		first.Groups, first.Apart, first.Between = first.Groups[:cap(first.Groups)], first.Apart[:cap(first.Apart)], first.Between[:cap(first.Between)]
		clear(first.Groups)
		clear(first.Apart)
		clear(first.Between)
		clear(first.Phases[:cap(first.Phases)])
		clear(first.Eyes[:cap(first.Eyes)])
		clear(first.Plans[:cap(first.Plans)])
		if !sameSite(second, s) || !bytes.Equal(other, kept) {
			t.Fatal("Read's answers share memory")
		}
		plans, _ := Whole(s.Plans)
		more, _ := Whole(s.Plans)
		clear(plans[:cap(plans)])
		one, _ := Parts(more)
		two, _ := Parts(more)
		holdLists(t, splits(one))
		clear(one[:cap(one)])
		if !samePlans(two, before.Plans) || !reflect.DeepEqual(s, before) {
			t.Fatal("plans share memory")
		}
	}
}
