package net

import (
	"bytes"
	"encoding/binary"
	"math"
	"math/rand/v2"
	"reflect"
	"slices"
	"testing"

	"stopline/api"
	"stopline/site"
)

func readBad(t *testing.T, what string, b []byte) {
	t.Helper()
	if n, e := Read(b); !isNoNet(n) || e != api.ErrBad {
		t.Error(what, len(b), n, int(e))
	}
}

// holdRead holds Read against the chapter's words, and tells whether b is a region's.
func holdRead(t *testing.T, b []byte) bool {
	t.Helper()
	want, well := slowRead(b)
	if !well {
		readBad(t, "Read", b)
		return false
	}
	if n, e := Read(b); e != api.OK || !sameNet(n, want) {
		t.Error("Read", b, n, int(e), "not", want)
	}
	return true
}

// P6.1, P6.4, W7
func TestWriteAndRead(t *testing.T) {
	for _, n := range nets() {
		b, e := Write(n)
		if e != api.OK || !bytes.Equal(b, slowBytes(n)) {
			t.Fatal("Write", b, int(e), n)
		}
		if again, e := Read(b); e != api.OK || !sameNet(again, n) {
			t.Fatal("Read", again, int(e), n)
		}
	}
}

// P6.1: the bytes of regions, number by number.
func TestBytesOfRegions(t *testing.T) {
	first := summed([]byte{0, 1, 2, 1, 1, 0, 0, 1, 1, 1, 1, 1, 0, 0, 1, 1, 1, 1, 1, 0})
	want := summed(slices.Concat([]byte{1, 24}, first, []byte{1, 1, 0, 0, 1, 1, 1, 0}))
	if b, e := Write(least()); e != api.OK || !bytes.Equal(b, want) {
		t.Error(b, int(e), want)
	}
	if n, e := Read(want); e != api.OK || !sameNet(n, least()) {
		t.Error(n, int(e))
	}
	n, list := mixed(), []byte{4}
	for _, s := range n.Sites {
		b, _ := site.Write(s)
		list = append(append(list, byte(len(b))), b...)
	}
	want = summed(append(list,
		3, 2, 3, 0, 0, 1, 2, 2, 1, 1, 1,
		100, 160, 1, 20,
		2, 0, 2, 130, 1, 3, 0, 99, 17, 1, 2, 6, 1, 9))
	if b, e := Write(n); e != api.OK || !bytes.Equal(b, want) {
		t.Error(b, int(e), want)
	}
	if again, e := Read(want); e != api.OK || !sameNet(again, n) {
		t.Error(again, int(e))
	}
}

// P6.1: a site of more than 127 bytes has a length of two, and a region's bytes may be more than MaxText.
func TestBytesOfTheGreatest(t *testing.T) {
	n := greatest()
	b, e := Write(n)
	many, k := binary.Uvarint(b[1:])
	if e != api.OK || b[0] != 12 || many < 1000 || k != 2 || len(b) <= api.MaxText {
		t.Error(int(e), len(b), many, k)
	}
	if again, e := Read(b); e != api.OK || !sameNet(again, n) {
		t.Error(int(e))
	}
	if s, e := site.Read(b[3 : 3+many]); e != api.OK || s.Id != 65535 {
		t.Error(s, int(e))
	}
}

// W7: what may not be has no bytes, and its bytes, had it some, are no region's.
func TestBytesOfWhatMayNotBe(t *testing.T) {
	for _, n := range []api.Net{mixed(), example(), least()} {
		for _, p := range ints(&n) {
			old := *p
			for _, x := range []int{0, old + 1, old - 1, 5, 12, 100, top, top + 1, 1 << 40, math.MaxInt} {
				if *p = max(x, 0); slowSites(n) {
					b, e := Write(n)
					if well := holdRead(t, slowBytes(n)); well != (e == api.OK) || well != (len(b) > 0) {
						t.Error(x, well, int(e))
					}
				}
			}
			*p = old
		}
	}
	for _, n := range wrongs() {
		readBad(t, "what may not be", slowBytes(n))
	}
	for _, n := range []api.Net{counted(13, 1, 0, 1), counted(12, 7, 0, 1), counted(6, 6, 9, 1), counted(6, 6, 8, 9), counted(6, 6, 1, 0), counted(5, 6, 0, 1)} {
		readBad(t, "counts", slowBytes(n))
	}
}

// P6.4: each byte at each place is the only one that may stand there.
func TestOneByteTurned(t *testing.T) {
	for _, n := range []api.Net{example(), mixed(), least()} {
		b, _ := Write(n)
		for i := range b {
			for x := 1; x < 256; x++ {
				b[i] ^= byte(x)
				readBad(t, "turned", b)
				b[i] ^= byte(x)
			}
		}
	}
	b, _ := Write(greatest())
	for i := range b {
		x := byte(1) << (i % 8)
		b[i] ^= x
		readBad(t, "turned", b)
		b[i] ^= x
	}
}

// P6.1: too short, too long, with bytes behind, another sum, no sum.
func TestBytesThatAreNoRegions(t *testing.T) {
	readBad(t, "none", nil)
	readBad(t, "none", []byte{})
	for n := range 40 {
		readBad(t, "noughts", make([]byte, n))
		readBad(t, "noughts with their sum", summed(make([]byte, n)))
		readBad(t, "all bits", bytes.Repeat([]byte{255}, n))
		readBad(t, "ones with their sum", summed(bytes.Repeat([]byte{1}, n)))
	}
	for _, n := range []api.Net{example(), mixed(), least()} {
		b, _ := Write(n)
		told := b[:len(b)-4]
		for k := range b {
			readBad(t, "cut behind", b[:k])
			readBad(t, "cut ahead", b[k+1:])
			readBad(t, "cut, with its sum", summed(told[:min(k, len(told)-1)]))
		}
		for x := range 256 {
			readBad(t, "one behind", append(bytes.Clone(b), byte(x)))
			readBad(t, "one behind, ahead of the sum", summed(append(bytes.Clone(told), byte(x))))
			readBad(t, "one ahead", append([]byte{byte(x)}, b...))
		}
		readBad(t, "twice", append(bytes.Clone(b), b...))
		readBad(t, "twice, with its sum", summed(append(bytes.Clone(told), told...)))
		readBad(t, "its sum again", summed(b))
		readBad(t, "no sum", told)
		sum := binary.LittleEndian.Uint32(b[len(told):])
		readBad(t, "one more", binary.LittleEndian.AppendUint32(bytes.Clone(told), sum+1))
		readBad(t, "turned", binary.LittleEndian.AppendUint32(bytes.Clone(told), ^sum))
		readBad(t, "the highest byte first", binary.BigEndian.AppendUint32(bytes.Clone(told), sum))
		one, _ := site.Write(n.Sites[0])
		readBad(t, "a site's", one)
	}
	readBad(t, "many", make([]byte, api.MaxText+1))
	readBad(t, "many with their sum", summed(make([]byte, 1<<20)))
	readBad(t, "many ones with their sum", summed(bytes.Repeat([]byte{1}, 1<<20)))
}

// wrongNumbers are bytes that are no number's, or not its fewest, or a number's that is far beyond n but has its lowest bits.
func wrongNumbers(n uint64) [][]byte {
	list := [][]byte{{128}, {128, 0}, {255, 128, 0}, bytes.Repeat([]byte{255}, 9), append(bytes.Repeat([]byte{255}, 9), 2), append(bytes.Repeat([]byte{128}, 9), 2), append(bytes.Repeat([]byte{255}, 10), 1)}
	longer := binary.AppendUvarint(nil, n)
	longer[len(longer)-1] |= 128
	list = append(list, append(bytes.Clone(longer), 0), append(bytes.Clone(longer), 128, 0))
	for _, more := range []uint64{1 << 31, 1 << 32, 1 << 33, 1 << 62, 1 << 63, 1<<63 | 1<<32} {
		list = append(list, binary.AppendUvarint(nil, n+more))
	}
	return append(list, binary.AppendUvarint(nil, math.MaxUint64), binary.AppendUvarint(nil, math.MaxUint64-n))
}

// P6.1: at each number's place, with the right sum: numbers that are not told in the fewest small bytes, numbers beyond what an int holds, lengths that are other ones.
func TestNumbersThatNoRegionHas(t *testing.T) {
	for _, n := range []api.Net{example(), mixed(), least(), greatest()} {
		p := piecesOf(n)
		for i, piece := range p.list {
			// The greatest one takes long to go through: some of its places will do.
			if p.isSites[i] || len(n.Sites) == 12 && i%8 != 1 {
				continue
			}
			was, _ := binary.Uvarint(piece)
			for _, wrong := range wrongNumbers(was) {
				readBad(t, "a wrong number", p.with(i, wrong))
			}
			for _, more := range []uint64{1, 2, 4, 20, 64, 128, 256, 1 << 16, 1 << 20, 1<<20 + 1} {
				holdRead(t, p.with(i, binary.AppendUvarint(nil, was+more)))
				if was >= more {
					holdRead(t, p.with(i, binary.AppendUvarint(nil, was-more)))
				}
			}
		}
	}
}

// P6.1: a site's bytes that are no site's, or another one's, with the right sum of all.
func TestSitesInARegionsBytes(t *testing.T) {
	for _, n := range []api.Net{example(), mixed(), least()} {
		p := piecesOf(n)
		for i, piece := range p.list {
			if !p.isSites[i] {
				continue
			}
			for k := range piece {
				for x := 1; x < 256; x++ {
					other := bytes.Clone(piece)
					other[k] ^= byte(x)
					readBad(t, "turned", p.with(i, other))
				}
				cut := bytes.Clone(p.list[i-1])
				cut[0] = byte(k)
				readBad(t, "cut", pieces{list: slices.Replace(slices.Clone(p.list), i-1, i, cut)}.with(i, piece[:k]))
			}
			readBad(t, "no bytes", pieces{list: slices.Replace(slices.Clone(p.list), i-1, i, []byte{0})}.with(i, nil))
			told := piece[:len(piece)-4]
			readBad(t, "a site with bytes behind", pieces{list: slices.Replace(slices.Clone(p.list), i-1, i, []byte{byte(len(piece) + 1)})}.with(i, append(bytes.Clone(piece), 0)))
			readBad(t, "a site without a sum", pieces{list: slices.Replace(slices.Clone(p.list), i-1, i, []byte{byte(len(told))})}.with(i, told))
		}
	}
}

// P6.1: a site in the bytes that may be by itself, but not there.
func TestOtherSitesInARegionsBytes(t *testing.T) {
	p := piecesOf(mixed())
	for _, c := range []struct {
		s    api.Site
		well bool
	}{
		{one(9, 1, top), true},
		{one(300, 100, 160), true},
		{one(7, 1, top), false},
		{one(300, 101, 160), false},
		{one(300, 100, 159), false},
	} {
		b, _ := site.Write(c.s)
		other := pieces{list: slices.Replace(slices.Clone(p.list), 1, 2, []byte{byte(len(b))})}.with(2, b)
		if well := holdRead(t, other); well != c.well {
			t.Error(c.s, well)
		}
	}
}

// P6.1: other bytes with their right sum are read as what they tell, or are no region's.
func TestOtherBytesWithTheirSum(t *testing.T) {
	well := 0
	for _, n := range []api.Net{example(), mixed(), least()} {
		b, _ := Write(n)
		told := b[:len(b)-4]
		for i := range told {
			for x := 1; x < 256; x++ {
				other := bytes.Clone(told)
				other[i] ^= byte(x)
				if holdRead(t, summed(other)) {
					well++
				}
			}
			holdRead(t, summed(slices.Delete(bytes.Clone(told), i, i+1)))
			holdRead(t, summed(slices.Insert(bytes.Clone(told), i, 0)))
			holdRead(t, summed(slices.Insert(bytes.Clone(told), i, 1)))
		}
	}
	if well < 500 {
		t.Error("too few regions:", well)
	}
	chance := rand.New(rand.NewPCG(6, 5))
	for range 10000 {
		b, _ := Write(some(chance))
		told := b[:len(b)-4]
		for range 1 + chance.IntN(3) {
			told[chance.IntN(len(told))] = []byte{0, 1, 2, 3, 127, 128, byte(chance.Uint32())}[chance.IntN(7)]
		}
		holdRead(t, summed(told))
		holdRead(t, b)
	}
}

// P6.3: bytes that are handed in stay as they were, and what was read does not hang on them.
func TestBytesAreOnlyRead(t *testing.T) {
	for _, n := range nets() {
		told, _ := Write(n)
		b := withRoom(told, 77)
		before := full(b)
		got, _ := Read(b)
		if !bytes.Equal(before, full(b)) {
			t.Fatal("bytes were changed")
		}
		clear(b[:cap(b)])
		if !sameNet(got, n) {
			t.Fatal("an answer hangs on the bytes it was read from")
		}
	}
}

// lists are the numbers of each list of ints of a region, with its spare room.
func lists(n api.Net) [][]int {
	var all [][]int
	for _, s := range n.Sites {
		for _, row := range s.Between {
			all = append(all, row[:cap(row)])
		}
		for _, p := range s.Plans {
			all = append(all, p.Splits[:cap(p.Splits)])
		}
	}
	for _, sub := range n.Subs {
		all = append(all, sub.Sites[:cap(sub.Sites)])
	}
	for _, w := range n.Weds {
		all = append(all, w.Offsets[:cap(w.Offsets)])
	}
	return all
}

// spoil writes a number of its own through each list, so that two that share memory are told apart.
func spoil(t *testing.T, all [][]int) {
	t.Helper()
	for i, list := range all {
		for k := range list {
			list[k] = -1 - i
		}
	}
	for i, list := range all {
		for _, x := range list {
			if x != -1-i {
				t.Fatal("two lists share memory", i, -1-x)
			}
		}
	}
}

// P6.3: what is answered is new memory, and no two lists of it share any.
func TestAnswersAreNewMemory(t *testing.T) {
	for _, n := range nets() {
		before := clone(n)
		b, _ := Write(n)
		other, _ := Write(n)
		kept := bytes.Clone(other)
		clear(b[:cap(b)])
		if !bytes.Equal(other, kept) || !reflect.DeepEqual(n, before) {
			t.Fatal("Write's answers share memory")
		}
		first, _ := Read(other)
		second, _ := Read(other)
		spoil(t, lists(first))
		for _, s := range first.Sites {
			clear(s.Groups[:cap(s.Groups)])
			clear(s.Apart[:cap(s.Apart)])
			clear(s.Phases[:cap(s.Phases)])
			clear(s.Eyes[:cap(s.Eyes)])
		}
		clear(first.Sites[:cap(first.Sites)])
		clear(first.Subs[:cap(first.Subs)])
		clear(first.Weds[:cap(first.Weds)])
		if !sameNet(second, n) || !bytes.Equal(other, kept) {
			t.Fatal("Read's answers share memory")
		}
	}
}
