package block

import (
	"bytes"
	"math/rand/v2"
	"slices"
	"testing"

	"stopline/api"
)

// P18.3: every short list of writes on devices of few blocks, each whole and each torn, against the slow reading and against looking back alone.
func TestDoOfEveryList(t *testing.T) {
	seen := 0
	for _, c := range []struct{ many, most int }{{1, 4}, {2, 4}, {3, 3}} {
		d := marked(c.many)
		everyList(c.many, c.most, func(l []api.Put) {
			for whole := range len(l) + 1 {
				for torn := range 65 {
					behind := well(t, d, l, whole, torn)
					for i, x := range behind.Data {
						if want := byteBehind(d, l, whole, torn, i); x != want {
							t.Fatal(l, whole, torn, i, x, want)
						}
					}
					seen++
				}
			}
		})
	}
	// Of k writes k + 1 wholes, and 65 torns of each.
	if want := 65 * ((1 + 2 + 3 + 4 + 5) + (1 + 2*2 + 4*3 + 8*4 + 16*5) + (1 + 3*2 + 9*3 + 27*4)); seen != want {
		t.Error(seen, want)
	}
}

// P18.3: long lists of any bytes, on devices of any number of blocks.
func TestDoOfAnyLists(t *testing.T) {
	source := rand.New(rand.NewPCG(18, 3))
	for i := range 600 {
		many := 1 + i%64
		d, l := someDevice(source, many), someWrites(source, many, 40)
		for range 8 {
			whole, torn := source.IntN(len(l)+1), source.IntN(65)
			behind := well(t, d, l, whole, torn)
			for i, x := range behind.Data {
				if want := byteBehind(d, l, whole, torn, i); x != want {
					t.Fatal(many, len(l), whole, torn, i)
				}
			}
		}
	}
}

// P18.3: more writes than blocks, each block again and again.
func TestDoOfManyWrites(t *testing.T) {
	source := rand.New(rand.NewPCG(18, 4))
	for _, many := range []int{1, 2, 64} {
		var l []api.Put
		for range 5000 {
			l = append(l, api.Put{N: source.IntN(many), Data: someBytes(source, 64)})
		}
		d := someDevice(source, many)
		for _, c := range []struct{ whole, torn int }{{0, 64}, {1, 0}, {4998, 1}, {4999, 0}, {4999, 63}, {5000, 0}, {5000, 64}} {
			behind := well(t, d, l, c.whole, c.torn)
			for i, x := range behind.Data {
				if x != byteBehind(d, l, c.whole, c.torn, i) {
					t.Fatal(many, c, i)
				}
			}
		}
	}
}

// P18.5: what was written is read, and all other blocks are as they were.
func TestWrittenIsRead(t *testing.T) {
	source := rand.New(rand.NewPCG(18, 5))
	for many := 1; many <= 64; many++ {
		d := someDevice(source, many)
		for range 20 {
			n, b := source.IntN(many), someBytes(source, 64)
			next := holdWrite(t, d, n, b)
			for i := range many {
				was := holdRead(t, d, i)
				is := holdRead(t, next, i)
				if i == n && !bytes.Equal(is, b) || i != n && !bytes.Equal(is, was) {
					t.Fatal(many, n, i)
				}
			}
			if again := holdWrite(t, next, n, holdRead(t, d, n)); !Same(again, d) {
				t.Fatal("not as before", many, n)
			}
			d = next
		}
	}
}

// P18.5: with all writes whole nothing is torn, whichever number torn is; and it is what Write tells, one by one.
func TestAllWritesWhole(t *testing.T) {
	source := rand.New(rand.NewPCG(18, 6))
	for i := range 200 {
		many := 1 + i%9
		d, l := someDevice(source, many), someWrites(source, many, 9)
		want := d
		for k, p := range l {
			want = holdWrite(t, want, p.N, p.Data)
			if got := well(t, d, l, k+1, 0); !Same(got, want) {
				t.Fatal("not as Write tells", many, k)
			}
		}
		for torn := range 65 {
			if got := well(t, d, l, len(l), torn); !Same(got, want) {
				t.Fatal("torn", many, torn)
			}
		}
	}
}

// P18.5: a torn block has the first bytes of the one, the others of the other; a torn one of all bytes is whole, one of none is as it was; all other blocks are as the whole writes left them.
func TestTornBlock(t *testing.T) {
	source := rand.New(rand.NewPCG(18, 7))
	for i := range 60 {
		many := 1 + i%7
		d, l := someDevice(source, many), someWrites(source, many, 6)
		for whole, p := range l {
			was := well(t, d, l, whole, 0)
			for torn := range 65 {
				is := well(t, d, l, whole, torn)
				want := append(slices.Clone(p.Data[:torn]), holdRead(t, was, p.N)[torn:]...)
				if !bytes.Equal(holdRead(t, is, p.N), want) {
					t.Fatal(many, whole, torn)
				}
				if back := holdWrite(t, is, p.N, holdRead(t, was, p.N)); !Same(back, was) {
					t.Fatal("another block", many, whole, torn)
				}
			}
			if !Same(well(t, d, l, whole, 64), well(t, d, l, whole+1, 0)) {
				t.Fatal("all bytes are not whole", many, whole)
			}
		}
	}
}

// P18.5: a list that is broken off and then done on from there, the torn one again, comes to the same as the list done at once; and so it does if the rest is broken off, too.
func TestBrokenOffAndDoneOn(t *testing.T) {
	source := rand.New(rand.NewPCG(18, 8))
	for i := range 120 {
		many := 1 + i%5
		d, l := someDevice(source, many), someWrites(source, many, 7)
		atOnce := well(t, d, l, len(l), 0)
		for broken := range len(l) + 1 {
			for _, torn := range []int{0, 1, 2, 31, 63, 64} {
				half := well(t, d, l, broken, torn)
				if got := well(t, half, l[broken:], len(l)-broken, 0); !Same(got, atOnce) {
					t.Fatal(many, broken, torn)
				}
				if got := well(t, half, l, len(l), 0); !Same(got, atOnce) {
					t.Fatal("from the beginning", many, broken, torn)
				}
			}
			half := well(t, d, l, broken, 0)
			for more := range len(l) - broken + 1 {
				for _, torn := range []int{0, 1, 63, 64} {
					if got := well(t, half, l[broken:], more, torn); !Same(got, well(t, d, l, broken+more, torn)) {
						t.Fatal("the rest", many, broken, more, torn)
					}
				}
			}
		}
	}
}

// W6, as far as a device goes: wherever power fails in writes of other blocks each, all blocks ahead of that are as behind all writes, all others as before, and the one in whose midst it fails has first bytes of behind, and then of before.
func TestPowerFails(t *testing.T) {
	source := rand.New(rand.NewPCG(18, 9))
	for i := range 40 {
		many := 1 + i%8
		d, l := someDevice(source, many), []api.Put{}
		for _, n := range source.Perm(many)[:1+source.IntN(many)] {
			l = append(l, api.Put{N: n, Data: someBytes(source, 64)})
		}
		behind := well(t, d, l, len(l), 0)
		for whole := range len(l) + 1 {
			for torn := range 65 {
				is := well(t, d, l, whole, torn)
				for n := range many {
					place := slices.IndexFunc(l, func(p api.Put) bool { return p.N == n })
					of := 0 // how many of its bytes are those of behind
					switch {
					case place >= 0 && place < whole:
						of = 64
					case place == whole:
						of = torn
					}
					want := append(slices.Clone(holdRead(t, behind, n)[:of]), holdRead(t, d, n)[of:]...)
					if !bytes.Equal(holdRead(t, is, n), want) {
						t.Fatal(many, whole, torn, n)
					}
				}
			}
		}
	}
}
