package raw

import (
	"bytes"
	"hash/crc32"
	"math"
	"math/big"
	"math/bits"
	"math/rand/v2"
	"testing"

	"stopline/api"
)

// edges are the numbers at which a width or a count of small bytes turns, with their neighbours.
func edges() []uint64 {
	list := []uint64{0, 1, 2, 127, 128, 255, 256, 258, 300, math.MaxUint64, math.MaxUint64 - 1}
	for k := range 64 {
		list = append(list, 1<<k-1, 1<<k, 1<<k+1)
	}
	return list
}

// numbers are the edges, and others of each length in bits.
func numbers() []uint64 {
	list, chance := edges(), rand.New(rand.NewPCG(3, 1))
	for range 50 {
		for k := range 64 {
			list = append(list, chance.Uint64()>>k)
		}
	}
	return list
}

// fits asks by big numbers whether n is below 2^(8 width).
func fits(n uint64, width int) bool {
	return new(big.Int).SetUint64(n).Cmp(new(big.Int).Lsh(big.NewInt(1), uint(8*width))) < 0
}

// slowBytes divides where the program shifts.
func slowBytes(n uint64, width int) []byte {
	list := []byte{}
	for range width {
		list = append(list, byte(n%256))
		n /= 256
	}
	return list
}

func slowSmall(n uint64) []byte {
	list := []byte{}
	for n > 127 {
		list = append(list, byte(n%128+128))
		n /= 128
	}
	return append(list, byte(n))
}

// slowSum goes bit by bit, as the document tells the sum.
func slowSum(b []byte) uint32 {
	r := uint32(4294967295)
	for _, x := range b {
		r ^= uint32(x)
		for range 8 {
			odd := r%2 == 1
			r /= 2
			if odd {
				r ^= 3988292384
			}
		}
	}
	return ^r
}

func some(chance *rand.Rand, n int) []byte {
	list := make([]byte, n)
	for i := range list {
		list[i] = byte(chance.Uint32())
	}
	return list
}

func readBad(t *testing.T, b []byte) {
	t.Helper()
	if n, k, e := Read(b); n != 0 || k != 0 || e != api.ErrBad {
		t.Error("Read", b, n, k, e)
	}
}

func readWell(t *testing.T, b []byte, n uint64, k int) {
	t.Helper()
	if got, many, e := Read(b); got != n || many != k || e != api.OK {
		t.Error("Read", b, got, many, e, "not", n, k)
	}
}

// Examples: every row of the chapter.
func TestExamples(t *testing.T) {
	for _, c := range []struct {
		n     uint64
		width int
		want  []byte
		e     api.Errno
	}{{258, 2, []byte{2, 1}, api.OK}, {258, 4, []byte{2, 1, 0, 0}, api.OK}, {256, 1, nil, api.ErrArg}, {0, 0, nil, api.ErrArg}} {
		if b, e := Put(c.n, c.width); !bytes.Equal(b, c.want) || e != c.e {
			t.Error("Put", c.n, c.width, b, e)
		}
	}
	if b := Small(0); !bytes.Equal(b, []byte{0}) {
		t.Error("Small", 0, b)
	}
	if b := Small(300); !bytes.Equal(b, []byte{172, 2}) {
		t.Error("Small", 300, b)
	}
	readWell(t, []byte{172, 2, 9}, 300, 2)
	readBad(t, []byte{128, 0})
	if n, e := Get(nil); n != 0 || e != api.ErrBad {
		t.Error("Get of none", n, e)
	}
	if n, e := Get([]byte{1, 1}); n != 257 || e != api.OK {
		t.Error("Get", n, e)
	}
	if n := Sum(nil); n != 0 {
		t.Error("Sum of none", n)
	}
	if n := Sum([]byte("123456789")); n != 3421780262 {
		t.Error("Sum", n)
	}
}

// P3.1, P3.5, W7: each number in each width that may be, and in none that is too narrow.
func TestPutAndGet(t *testing.T) {
	for _, n := range numbers() {
		for width := 1; width <= 8; width++ {
			b, e := Put(n, width)
			if !fits(n, width) {
				if len(b) != 0 || e != api.ErrArg {
					t.Error("Put of too much", n, width, b, e)
				}
				continue
			}
			if e != api.OK || !bytes.Equal(b, slowBytes(n, width)) {
				t.Error("Put", n, width, b, e)
			}
			if m, e := Get(b); m != n || e != api.OK {
				t.Error("Get", b, m, e)
			}
		}
	}
}

// P3.1: 2^(8 width) - 1 is the greatest number of a width.
func TestPutAtTheEdgeOfEachWidth(t *testing.T) {
	for width := 1; width <= 8; width++ {
		most := uint64(math.MaxUint64) >> (64 - 8*width)
		if b, e := Put(most, width); e != api.OK || !bytes.Equal(b, bytes.Repeat([]byte{255}, width)) {
			t.Error(width, b, e)
		}
		if b, e := Put(0, width); e != api.OK || !bytes.Equal(b, make([]byte, width)) {
			t.Error(width, b, e)
		}
		if width == 8 {
			continue
		}
		if b, e := Put(most+1, width); e != api.ErrArg || len(b) != 0 {
			t.Error(width, b, e)
		}
	}
}

// P3.1
func TestPutOfAWidthThatMayNotBe(t *testing.T) {
	for _, width := range []int{0, -1, -2, -7, -8, -9, 9, 10, 16, 64, 256 + 1, 1 << 32, 1<<32 + 1, 1<<61 + 1, math.MaxInt, math.MaxInt - 1, math.MinInt, math.MinInt + 1} {
		for _, n := range edges() {
			if b, e := Put(n, width); len(b) != 0 || e != api.ErrArg {
				t.Error(n, width, b, e)
			}
		}
	}
}

// P3.1
func TestGetOfEachLength(t *testing.T) {
	chance := rand.New(rand.NewPCG(3, 2))
	for range 100 {
		for k := 1; k <= 8; k++ {
			b, want := some(chance, k), uint64(0)
			for i := k - 1; i >= 0; i-- {
				want = want*256 + uint64(b[i])
			}
			if n, e := Get(b); n != want || e != api.OK {
				t.Error(b, n, e)
			}
		}
	}
	for _, b := range [][]byte{nil, {}, make([]byte, 9), bytes.Repeat([]byte{255}, 9), make([]byte, 10), make([]byte, 16), make([]byte, 256), make([]byte, 257), make([]byte, api.MaxText+1)} {
		if n, e := Get(b); n != 0 || e != api.ErrBad {
			t.Error(len(b), n, e)
		}
	}
}

// P3.2, P3.5, W7: whatever stands behind, also what would go on.
func TestSmallAndRead(t *testing.T) {
	behind := [][]byte{nil, {0}, {9}, {127}, {128}, {128, 0}, {255}, {255, 255, 255, 255, 255, 255, 255, 255, 255, 255, 255}, make([]byte, 300)}
	for _, n := range numbers() {
		b := Small(n)
		if !bytes.Equal(b, slowSmall(n)) {
			t.Error("Small", n, b)
		}
		for _, rest := range behind {
			readWell(t, append(bytes.Clone(b), rest...), n, len(b))
		}
	}
}

// P3.2, P3.5: a number below 2^(7 k) has at most k small bytes, and 2^(7 k) has one more.
func TestSmallIsAsFewAsCanBe(t *testing.T) {
	for _, n := range numbers() {
		if k := max(1, (bits.Len64(n)+6)/7); len(Small(n)) != k {
			t.Error(n, len(Small(n)), k)
		}
	}
	for k := 1; k <= 9; k++ {
		edge := uint64(1) << (7 * k)
		if b := Small(edge - 1); len(b) != k || b[k-1] != 127 {
			t.Error(edge-1, b)
		}
		if b := Small(edge); len(b) != k+1 || b[k] != 1 {
			t.Error(edge, b)
		}
	}
	if b := Small(math.MaxUint64); !bytes.Equal(b, []byte{255, 255, 255, 255, 255, 255, 255, 255, 255, 1}) {
		t.Error(b)
	}
}

// P3.2
func TestReadOfBytesThatEndTooSoon(t *testing.T) {
	readBad(t, nil)
	readBad(t, []byte{})
	for _, n := range numbers() {
		b := Small(n)
		for k := range b {
			readBad(t, b[:k:k])
		}
	}
	for k := 1; k <= 20; k++ {
		readBad(t, bytes.Repeat([]byte{128}, k))
		readBad(t, bytes.Repeat([]byte{255}, k))
	}
	readBad(t, bytes.Repeat([]byte{129}, api.MaxText+1))
}

// P3.2: noughts at the end are bytes that are not needed, in any number of them.
func TestReadOfMoreBytesThanNeeded(t *testing.T) {
	readWell(t, []byte{0}, 0, 1)
	readWell(t, []byte{0, 0}, 0, 1)
	for _, n := range numbers() {
		b := Small(n)
		for range 12 {
			b[len(b)-1] |= 128
			b = append(b, 0)
			readBad(t, b)
			readBad(t, append(bytes.Clone(b), 1, 1))
		}
	}
}

// P3.2: the tenth byte has one bit left.
func TestReadAtAndBeyondTwoToTheSixtyFour(t *testing.T) {
	for _, low := range [][]byte{bytes.Repeat([]byte{128}, 9), bytes.Repeat([]byte{255}, 9), {200, 255, 128, 129, 130, 131, 132, 133, 134}} {
		part := uint64(0)
		for i := 8; i >= 0; i-- {
			part = part*128 + uint64(low[i]-128)
		}
		for last := range 256 {
			b := append(bytes.Clone(low), byte(last))
			if last == 1 {
				readWell(t, b, part+1<<63, 10)
				continue
			}
			readBad(t, b)
			readBad(t, append(b, 1))
			readBad(t, append(b, 0))
		}
	}
}

// P3.2: of all of one, two and three bytes, those alone are read that Small writes.
func TestReadTakesWhatSmallWritesAlone(t *testing.T) {
	for x := range 1 << 24 {
		b := [3]byte{byte(x), byte(x >> 8), byte(x >> 16)}
		// The third byte is gone through at its turns alone.
		if b[2] > 2 && b[2] < 126 || b[2] > 129 && b[2] < 254 {
			continue
		}
		for k := 1; k <= 3; k++ {
			n, many, e := Read(b[:k])
			if e != api.OK {
				if n != 0 || many != 0 || e != api.ErrBad || wellBegun(b[:k]) {
					t.Fatal(b[:k], n, many, e)
				}
				continue
			}
			if !wellBegun(b[:k]) || many < 1 || many > k || !bytes.Equal(slowSmall(n), b[:many]) {
				t.Fatal(b[:k], n, many, e)
			}
		}
	}
}

// wellBegun tells whether up to three bytes begin with a number's small ones: an end is there, and it is no nought behind others.
func wellBegun(b []byte) bool {
	for i, x := range b {
		if x < 128 {
			return x > 0 || i == 0
		}
	}
	return false
}

// P3.3: against the document's steps, and against the library's sum.
func TestSum(t *testing.T) {
	chance := rand.New(rand.NewPCG(3, 3))
	hold := func(b []byte) {
		t.Helper()
		if n := Sum(b); n != slowSum(b) || n != crc32.ChecksumIEEE(b) {
			t.Error(b, n)
		}
	}
	hold(nil)
	hold([]byte{})
	for x := range 256 {
		hold([]byte{byte(x)})
		for y := range 256 {
			hold([]byte{byte(x), byte(y)})
		}
	}
	for n := range 300 {
		hold(make([]byte, n))
		hold(bytes.Repeat([]byte{255}, n))
		hold(some(chance, n))
	}
	hold(some(chance, api.MaxText))
	hold(some(chance, 1<<18+1))
}

// P3.3: the sum is one of its own each time, whatever was summed ahead.
func TestSumKeepsNothing(t *testing.T) {
	b := []byte("123456789")
	for range 3 {
		if n := Sum(b); n != 3421780262 {
			t.Error(n)
		}
		Sum([]byte("others"))
	}
}

// P3.5: up to four bytes side by side that are other ones change the sum.
func TestSumTellsUpToFourBytesSideBySide(t *testing.T) {
	chance := rand.New(rand.NewPCG(3, 4))
	for range 200 {
		b := some(chance, 1+chance.IntN(60))
		want := Sum(b)
		for at := range b {
			for k := 1; k <= min(4, len(b)-at); k++ {
				other := bytes.Clone(b)
				copy(other[at:at+k], some(chance, k))
				if !bytes.Equal(other, b) && Sum(other) == want {
					t.Error(b, other)
				}
			}
		}
	}
	b := []byte("some bytes that are summed")
	for at := range b {
		for x := 1; x < 256; x++ {
			other := bytes.Clone(b)
			other[at] ^= byte(x)
			if Sum(other) == Sum(b) {
				t.Error(at, x)
			}
		}
	}
}

// P3.4: bytes with spare room behind them, which a call might write into.
func TestWhatIsHandedInIsOnlyRead(t *testing.T) {
	chance := rand.New(rand.NewPCG(3, 5))
	for k := range 20 {
		room := some(chance, k+16)
		was := bytes.Clone(room)
		b := room[:k]
		Get(b)
		Read(b)
		Sum(b)
		if !bytes.Equal(room, was) {
			t.Error(k, room, was)
		}
	}
}

// P3.4: neither what was answered ahead, nor what a caller does to it, is seen in a later answer.
func TestWhatIsAnsweredIsNewMemory(t *testing.T) {
	spoil := func(b []byte) {
		b = b[:cap(b)]
		for i := range b {
			b[i] = ^b[i]
		}
	}
	for _, n := range edges() {
		first, second := Small(n), Small(n)
		spoil(first)
		if !bytes.Equal(second, slowSmall(n)) || !bytes.Equal(Small(n), slowSmall(n)) {
			t.Error("Small", n)
		}
		for width := 1; width <= 8; width++ {
			if !fits(n, width) {
				continue
			}
			first, _ := Put(n, width)
			second, _ := Put(n, width)
			spoil(first)
			third, _ := Put(n, width)
			if !bytes.Equal(second, slowBytes(n, width)) || !bytes.Equal(third, slowBytes(n, width)) {
				t.Error("Put", n, width)
			}
		}
	}
}

// R1, R2: whatever bytes come, each call ends, and answers the same again.
func TestWhateverBytesCome(t *testing.T) {
	chance := rand.New(rand.NewPCG(3, 6))
	for range 20000 {
		b := some(chance, chance.IntN(14))
		for i := range b {
			if chance.IntN(3) > 0 {
				b[i] |= 128
			}
		}
		n, k, e := Read(b)
		m, l, f := Read(bytes.Clone(b))
		if n != m || k != l || e != f {
			t.Error("Read", b)
		}
		if e == api.OK && !bytes.Equal(slowSmall(n), b[:k]) {
			t.Error("Read", b, n, k)
		}
		if e != api.OK && (n != 0 || k != 0 || e != api.ErrBad) {
			t.Error("Read", b, n, k, e)
		}
		x, e := Get(b)
		if e == api.OK {
			if back, e := Put(x, len(b)); e != api.OK || !bytes.Equal(back, b) {
				t.Error("Get", b, x)
			}
		}
	}
}
