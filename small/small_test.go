package small

import (
	"bytes"
	"encoding/binary"
	"hash/crc32"
	"math"
	"math/rand/v2"
	"slices"
	"testing"

	"stopline/api"
)

func varints(numbers ...uint64) []byte {
	var list []byte
	for _, n := range numbers {
		list = binary.AppendUvarint(list, n)
	}
	return list
}

func TestAppend(t *testing.T) {
	if b := Append(nil); len(b) != 0 {
		t.Error(b)
	}
	if b := Append([]byte{9}, 0, 127, 128, 300, math.MaxInt); !bytes.Equal(b, append([]byte{9}, varints(0, 127, 128, 300, math.MaxInt)...)) {
		t.Error(b)
	}
}

func TestSum(t *testing.T) {
	chance := rand.New(rand.NewPCG(6, 1))
	for n := range 100 {
		told := make([]byte, n)
		for i := range told {
			told[i] = byte(chance.Uint32())
		}
		want := binary.LittleEndian.AppendUint32(bytes.Clone(told), crc32.ChecksumIEEE(told))
		b := WithSum(bytes.Clone(told))
		if !bytes.Equal(b, want) {
			t.Fatal(told, b)
		}
		if ahead, well := AheadOfSum(b); !well || !bytes.Equal(ahead, told) {
			t.Error(b, ahead, well)
		}
		for i := range b {
			b[i] ^= 1 << chance.IntN(8)
			if _, well := AheadOfSum(b); well {
				t.Error("another sum", b)
			}
			copy(b, want)
		}
	}
	for n := range 4 {
		if ahead, well := AheadOfSum(make([]byte, n)); well || len(ahead) != 0 {
			t.Error(n, ahead, well)
		}
	}
}

// What the reader tells of numbers at and beyond the bounds it is asked with.
func TestReaderAtItsBounds(t *testing.T) {
	for _, c := range []struct {
		n    uint64
		read func(r *Reader) uint64
		well bool
	}{
		{5, func(r *Reader) uint64 { return r.UpTo(5) }, true},
		{6, func(r *Reader) uint64 { return r.UpTo(5) }, false},
		{math.MaxUint64, func(r *Reader) uint64 { return r.UpTo(math.MaxUint64) }, true},
		{0, func(r *Reader) uint64 { return uint64(r.Number()) }, true},
		{api.MaxTicks, func(r *Reader) uint64 { return uint64(r.Number()) }, true},
		{api.MaxTicks + 1, func(r *Reader) uint64 { return uint64(r.Number()) }, false},
		{1<<63 + 1, func(r *Reader) uint64 { return uint64(r.Number()) }, false},
		{8, func(r *Reader) uint64 { return uint64(r.Many(8)) }, true},
		{9, func(r *Reader) uint64 { return uint64(r.Many(8)) }, false},
		{1 << 63, func(r *Reader) uint64 { return uint64(r.Many(8)) }, false},
	} {
		r := ReaderOf(varints(c.n))
		got := c.read(&r)
		if r.Done() != c.well || c.well && got != c.n || !c.well && got != 0 {
			t.Error(c.n, got, r.Done())
		}
	}
}

// Behind what may not be a reader tells noughts, whatever comes, and is never done.
func TestReaderThatIsBad(t *testing.T) {
	for _, bad := range [][]byte{{128, 0}, {129, 128, 0}, varints(api.MaxTicks + 1), append(bytes.Repeat([]byte{255}, 9), 2)} {
		r := ReaderOf(append(bytes.Clone(bad), 1, 2, 3))
		for range 10 {
			if r.Number() != 0 || r.Many(9) != 0 || r.UpTo(9) != 0 || len(r.Piece()) != 0 || r.Done() {
				t.Error(bad)
			}
		}
	}
	r := ReaderOf(nil)
	if !r.Done() {
		t.Error("nothing is done at once")
	}
	if r.Number() != 0 || r.Done() {
		t.Error("a number of nothing")
	}
}

func TestPiece(t *testing.T) {
	r := ReaderOf([]byte{3, 7, 8, 9, 0, 1, 6})
	for _, want := range [][]byte{{7, 8, 9}, {}, {6}} {
		if r.Done() {
			t.Error("done too soon")
		}
		if p := r.Piece(); !bytes.Equal(p, want) {
			t.Error(p, want)
		}
	}
	if !r.Done() {
		t.Error("not done")
	}
	for _, b := range [][]byte{{}, {1}, {3, 7, 8}, append(varints(1<<63), 7), append(varints(math.MaxUint64), 7, 8), {129, 0, 7}} {
		r := ReaderOf(b)
		if p := r.Piece(); len(p) != 0 || r.Done() || r.Number() != 0 || r.Done() {
			t.Error(b, p)
		}
	}
}

func TestList(t *testing.T) {
	r := ReaderOf([]byte{4, 5, 6, 7})
	if l := List(3, r.Number); !slices.Equal(l, []int{4, 5, 6}) || r.Done() {
		t.Error(l)
	}
	if l := List(0, r.Number); len(l) != 0 {
		t.Error(l)
	}
	if l := List(1, r.Number); !slices.Equal(l, []int{7}) || !r.Done() {
		t.Error(l)
	}
}
