package frame

import (
	"bytes"
	"encoding/binary"
	"hash/crc32"
	"math/rand/v2"
	"testing"

	"stopline/api"
)

// slowInside takes the library's numbers and its sum.
func slowInside(m api.Message) []byte {
	list := binary.LittleEndian.AppendUint32([]byte{m.Kind}, m.Seq)
	list = append(list, m.Body...)
	return binary.LittleEndian.AppendUint32(list, crc32.ChecksumIEEE(list))
}

func slowStuff(b []byte) []byte {
	b = bytes.ReplaceAll(b, []byte{125}, []byte{125, 93})
	return bytes.ReplaceAll(b, []byte{126}, []byte{125, 94})
}

// slowBare turns every pair back, and asks whether stuffing tells b again.
func slowBare(b []byte) ([]byte, bool) {
	told := bytes.ReplaceAll(b, []byte{125, 94}, []byte{126})
	told = bytes.ReplaceAll(told, []byte{125, 93}, []byte{125})
	return told, bytes.Equal(slowStuff(told), b)
}

func slowOpen(b []byte) (api.Message, bool) {
	if len(b) < 9 || len(b) > 521 {
		return api.Message{}, false
	}
	m := api.Message{Kind: b[0], Seq: binary.LittleEndian.Uint32(b[1:]), Body: b[5 : len(b)-4]}
	return m, bytes.Equal(slowInside(m), b)
}

func slowFrame(m api.Message) []byte {
	return append(append([]byte{126}, slowStuff(slowInside(m))...), 126)
}

// slowScan parts b at all of its ends: what is ahead of the first one, and behind the last one, is no piece.
func slowScan(b []byte) ([]api.Message, int) {
	var list []api.Message
	parts := bytes.Split(b, []byte{126})
	for i := 1; i < len(parts)-1; i++ {
		told, well := slowBare(parts[i])
		if !well {
			continue
		}
		if m, well := slowOpen(told); well {
			list = append(list, m)
		}
	}
	return list, bytes.LastIndex(b, []byte{126})
}

func message(kind uint8, seq uint32, body ...byte) api.Message {
	return api.Message{Kind: kind, Seq: seq, Body: body}
}

func join(lists ...[]byte) []byte { return bytes.Join(lists, nil) }

// seqWithSum is a Seq by which a message without Body has x in its sum.
func seqWithSum(t *testing.T, x byte) uint32 {
	t.Helper()
	for seq := range uint32(1 << 16) {
		if b := slowInside(message(1, seq)); bytes.IndexByte(b[5:], x) >= 0 && bytes.IndexByte(b[:5], x) < 0 {
			return seq
		}
	}
	t.Fatal("no Seq whose sum has", x)
	return 0
}

// messages have 125 and 126 in each of their parts, and Bodies at both bounds.
func messages(t *testing.T) []api.Message {
	t.Helper()
	return []api.Message{
		message(0, 0),
		message(1, 2),
		message(255, 1<<32-1, 255),
		message(125, 1),
		message(126, 1),
		message(1, 125<<24|126<<16|125<<8|126),
		message(2, 126),
		message(2, 125<<24),
		message(3, 3, 125),
		message(3, 3, 126),
		message(3, 3, 125, 126, 125, 125, 126, 126, 93, 94, 125, 93, 125, 94),
		message(1, seqWithSum(t, 125)),
		message(1, seqWithSum(t, 126)),
		message(4, 4, make([]byte, 511)...),
		message(4, 5, make([]byte, 512)...),
		message(126, 126<<24|126<<16|126<<8|126, bytes.Repeat([]byte{126}, 512)...),
		message(125, 125<<24|125<<16|125<<8|125, bytes.Repeat([]byte{125}, 512)...),
	}
}

// letters make pairs, ends and broken pairs likely.
func letters(chance *rand.Rand, n int) []byte {
	list := make([]byte, n)
	for i := range list {
		list[i] = []byte{125, 126, 93, 94, 0, 1, byte(chance.Uint32())}[chance.IntN(7)]
	}
	return list
}

func someMessage(chance *rand.Rand) api.Message {
	n := []int{0, 1, 2, 3, 5, 9, 40, 511, 512}[chance.IntN(9)]
	return api.Message{Kind: letters(chance, 1)[0], Seq: binary.LittleEndian.Uint32(letters(chance, 4)), Body: letters(chance, n)}
}

// noise is frames, frames that are cut, turned or too long, and bytes of all sorts, in any order.
func noise(chance *rand.Rand, parts int) []byte {
	var list []byte
	for range parts {
		frame := slowFrame(someMessage(chance))
		switch chance.IntN(8) {
		case 0, 1, 2:
			list = append(list, frame...)
		case 3:
			list = append(list, frame[:chance.IntN(len(frame)+1)]...)
		case 4:
			list = append(list, frame[chance.IntN(len(frame)+1):]...)
		case 5:
			frame[chance.IntN(len(frame))] = letters(chance, 1)[0]
			list = append(list, frame...)
		case 6:
			list = append(list, slowFrame(message(1, 1, letters(chance, 513+chance.IntN(3))...))...)
		case 7:
			list = append(list, letters(chance, chance.IntN(20))...)
		}
	}
	return list
}

func sameMessage(a, b api.Message) bool {
	return a.Kind == b.Kind && a.Seq == b.Seq && bytes.Equal(a.Body, b.Body)
}

func same(t *testing.T, got, want []api.Message) {
	t.Helper()
	if len(got) != len(want) {
		t.Fatal(len(got), "messages, not", len(want))
	}
	for i := range got {
		if !sameMessage(got[i], want[i]) {
			t.Error(i, got[i], want[i])
		}
	}
}

func isNoMessage(m api.Message) bool { return m.Kind == 0 && m.Seq == 0 && len(m.Body) == 0 }

func openBad(t *testing.T, b []byte) {
	t.Helper()
	if m, e := Open(b); !isNoMessage(m) || e != api.ErrBad {
		t.Error("Open", len(b), b, m, e)
	}
}

func bareBad(t *testing.T, b []byte) {
	t.Helper()
	if told, e := Bare(b); len(told) != 0 || e != api.ErrBad {
		t.Error("Bare", len(b), b, told, e)
	}
}

func scanWell(t *testing.T, b []byte, want []api.Message, place int) {
	t.Helper()
	got, at, e := Scan(b)
	if at != place || e != api.OK {
		t.Fatal("Scan", len(b), at, e, "not", place)
	}
	same(t, got, want)
}

// holdBare asks Bare against the slow one.
func holdBare(t *testing.T, b []byte) {
	t.Helper()
	want, well := slowBare(b)
	if !well {
		bareBad(t, b)
		return
	}
	if got, e := Bare(b); e != api.OK || !bytes.Equal(got, want) {
		t.Error("Bare", b, got, e)
	}
}

// Examples: every row of the chapter.
func TestExamples(t *testing.T) {
	if b := Stuff([]byte{1, 125, 126}); !bytes.Equal(b, []byte{1, 125, 93, 125, 94}) {
		t.Error(b)
	}
	if b, e := Bare([]byte{125, 93}); !bytes.Equal(b, []byte{125}) || e != api.OK {
		t.Error(b, e)
	}
	bareBad(t, []byte{125})
	bareBad(t, []byte{126})
	bareBad(t, []byte{125, 1})
	that, e := Write(message(1, 2))
	want := binary.LittleEndian.AppendUint32(nil, crc32.ChecksumIEEE([]byte{1, 2, 0, 0, 0}))
	if !bytes.Equal(that, join([]byte{126, 1, 2, 0, 0, 0}, slowStuff(want), []byte{126})) || e != api.OK {
		t.Error(that, e)
	}
	all := join([]byte{7, 7}, that, []byte{126, 1, 126}, that, []byte{9})
	scanWell(t, all, []api.Message{message(1, 2), message(1, 2)}, len(all)-2)
	scanWell(t, nil, nil, -1)
	scanWell(t, []byte{126, 126}, nil, 1)
	openBad(t, nil)
}

// P4.1, P4.5, W7
func TestInsideAndOpen(t *testing.T) {
	chance, list := rand.New(rand.NewPCG(4, 1)), messages(t)
	for n := range 513 {
		list = append(list, api.Message{Kind: uint8(chance.Uint32()), Seq: chance.Uint32(), Body: letters(chance, n)})
	}
	for _, m := range list {
		b, e := Inside(m)
		if e != api.OK || !bytes.Equal(b, slowInside(m)) {
			t.Error("Inside", m, b, e)
		}
		if got, e := Open(b); e != api.OK || !sameMessage(got, m) {
			t.Error("Open", b, got, e)
		}
	}
	for _, n := range []int{0, api.MaxBody} {
		if b, e := Inside(message(0, 0, make([]byte, n)...)); e != api.OK || len(b) != n+9 {
			t.Error(n, len(b), e)
		}
	}
}

// P4.1, P4.2: each Kind may be, and each Seq.
func TestEachKindAndBitOfSeq(t *testing.T) {
	for i := range 256 {
		m := message(uint8(i), 1<<(i%32), byte(i))
		b, _ := Write(m)
		scanWell(t, b, []api.Message{m}, len(b)-1)
	}
}

// P4.1, P4.2: a Body that is too long, whatever the rest is.
func TestBodyThatIsTooLong(t *testing.T) {
	for _, n := range []int{api.MaxBody + 1, api.MaxBody + 2, 2 * api.MaxBody, api.MaxText, api.MaxText + 1, 1 << 16, 1<<16 + 1} {
		for _, m := range []api.Message{message(0, 0, make([]byte, n)...), message(126, 1<<32-1, make([]byte, n)...)} {
			if b, e := Inside(m); len(b) != 0 || e != api.ErrText {
				t.Error("Inside", n, len(b), e)
			}
			if b, e := Write(m); len(b) != 0 || e != api.ErrText {
				t.Error("Write", n, len(b), e)
			}
		}
	}
}

// P4.1: too short, too long (with the right sum of what there is), or of any length without its sum.
func TestOpenOfWhatIsNoInside(t *testing.T) {
	chance := rand.New(rand.NewPCG(4, 2))
	openBad(t, []byte{})
	for n := range 530 {
		told := letters(chance, n)
		b := binary.LittleEndian.AppendUint32(bytes.Clone(told), crc32.ChecksumIEEE(told))
		if n < 5 || n > 517 {
			openBad(t, b)
		} else if m, e := Open(b); e != api.OK || !bytes.Equal(slowInside(m), b) {
			t.Error(n, m, e)
		}
		openBad(t, make([]byte, n))
		openBad(t, told)
	}
	openBad(t, make([]byte, api.MaxText+1))
}

// P4.1: every bit counts, and so does every byte more or less.
func TestOpenOfAnInsideThatWasChanged(t *testing.T) {
	for _, m := range []api.Message{message(1, 2), message(125, 126, 1, 2, 3), message(9, 1<<32-1, make([]byte, 40)...), message(3, 4, make([]byte, 512)...)} {
		b, _ := Inside(m)
		for i := range 8 * len(b) {
			other := bytes.Clone(b)
			other[i/8] ^= 1 << (i % 8)
			openBad(t, other)
		}
		for k := range b {
			openBad(t, b[:k])
			openBad(t, b[k+1:])
		}
		openBad(t, append(bytes.Clone(b), 0))
		openBad(t, append([]byte{0}, b...))
		openBad(t, join(b, b))
	}
}

// P4.1, P4.5: all bytes alone, side by side, and all of up to seven out of those that matter.
func TestStuffAndBare(t *testing.T) {
	hold := func(b []byte) {
		t.Helper()
		stuffed := Stuff(b)
		if !bytes.Equal(stuffed, slowStuff(b)) || bytes.IndexByte(stuffed, 126) >= 0 {
			t.Error("Stuff", b, stuffed)
		}
		if again, e := Bare(stuffed); e != api.OK || !bytes.Equal(again, b) {
			t.Error("Bare", stuffed, again, e)
		}
		holdBare(t, b)
	}
	hold(nil)
	hold([]byte{})
	for x := range 256 {
		hold([]byte{byte(x)})
		for y := range 256 {
			hold([]byte{byte(x), byte(y)})
			holdBare(t, []byte{125, byte(x), byte(y)})
		}
	}
	many := 1
	for n := range 8 {
		for x := range many {
			b := make([]byte, n)
			for i := range b {
				b[i] = []byte{1, 93, 94, 125, 126}[x%5]
				x /= 5
			}
			hold(b)
		}
		many *= 5
	}
	chance := rand.New(rand.NewPCG(4, 3))
	for n := range 600 {
		hold(letters(chance, n))
	}
}

// P4.1: neither asks how long bytes are.
func TestStuffAndBareOfMoreThanMaxText(t *testing.T) {
	for _, n := range []int{api.MaxText, api.MaxText + 1, 3 * api.MaxText} {
		for _, x := range []byte{0, 125, 126} {
			b := bytes.Repeat([]byte{x}, n)
			stuffed := Stuff(b)
			if !bytes.Equal(stuffed, slowStuff(b)) {
				t.Error("Stuff", n, x, len(stuffed))
			}
			if again, e := Bare(stuffed); e != api.OK || !bytes.Equal(again, b) {
				t.Error("Bare", n, x, len(again), e)
			}
			bareBad(t, append(stuffed, 125))
		}
	}
}

// P4.1: what was wrong stays wrong, whatever stands behind it.
func TestBareOfWhatIsNotStuffed(t *testing.T) {
	for _, behind := range [][]byte{nil, {0}, {93}, {94}, {125, 93}, {125, 94}, make([]byte, 40)} {
		for _, b := range [][]byte{{126}, {125, 1}, {125, 0}, {125, 92}, {125, 95}, {125, 125}, {125, 126}, {1, 125, 125, 93}, {125, 93, 126}} {
			bareBad(t, append(bytes.Clone(b), behind...))
			bareBad(t, join([]byte{1, 125, 94}, b, behind))
		}
	}
	for _, b := range [][]byte{{125}, {1, 125}, {125, 93, 125}, {125, 94, 125}, {93, 94, 125}} {
		bareBad(t, b)
	}
	for _, b := range [][]byte{{93}, {94}, {93, 94}, {94, 93, 93}} {
		if told, e := Bare(b); e != api.OK || !bytes.Equal(told, b) {
			t.Error(b, told, e)
		}
	}
}

// P4.2, P4.5: a frame has its two ends alone.
func TestWrite(t *testing.T) {
	chance, list := rand.New(rand.NewPCG(4, 4)), messages(t)
	for range 300 {
		list = append(list, someMessage(chance))
	}
	for _, m := range list {
		b, e := Write(m)
		if e != api.OK || !bytes.Equal(b, slowFrame(m)) {
			t.Error(m, b, e)
		}
		if bytes.Count(b, []byte{126}) != 2 || b[0] != 126 || b[len(b)-1] != 126 {
			t.Error("ends", m, b)
		}
		scanWell(t, b, []api.Message{m}, len(b)-1)
	}
}

// P4.2: where the last end stands, with none, with one, with many.
func TestScanTellsTheLastEnd(t *testing.T) {
	that := slowFrame(message(1, 2))
	k := len(that)
	for _, c := range []struct {
		b     []byte
		many  int
		place int
	}{
		{[]byte{}, 0, -1},
		{[]byte{125}, 0, -1},
		{that[1 : k-1], 0, -1},
		{[]byte{126}, 0, 0},
		{[]byte{1, 126}, 0, 1},
		{[]byte{126, 1}, 0, 0},
		{[]byte{126, 126, 126, 1, 2}, 0, 2},
		{that[1:], 0, k - 2},
		{that[:k-1], 0, 0},
		{that, 1, k - 1},
		{append(bytes.Clone(that), 1, 2, 125), 1, k - 1},
		{join(that, that), 2, 2*k - 1},
		{join(that, that[1:]), 2, 2*k - 2}, // one end between them
		{join(that, that[1:], that[1:k-1]), 2, 2*k - 2},
		{join([]byte{126, 126, 126}, that, []byte{126, 126}), 1, k + 4},
		{join([]byte{125}, that, []byte{125}), 1, k},
		{join(that, []byte{125}, that, []byte{125, 126}, that), 3, 3*k + 2},
		{join(that[:k-1], []byte{125, 126}, that), 1, 2 * k},
	} {
		list := make([]api.Message, c.many)
		for i := range list {
			list[i] = message(1, 2)
		}
		scanWell(t, c.b, list, c.place)
	}
}

// P4.2
func TestScanAgainstTheSlowOne(t *testing.T) {
	chance := rand.New(rand.NewPCG(4, 5))
	for range 2000 {
		b := noise(chance, chance.IntN(8))
		want, place := slowScan(b)
		scanWell(t, b, want, place)
	}
	for n := range 2000 {
		b := letters(chance, n%300)
		want, place := slowScan(b)
		scanWell(t, b, want, place)
	}
}

// P4.2: pieces that are too short, too long, with another sum, or that end within a pair.
func TestScanOfPiecesThatAreNoMessages(t *testing.T) {
	well := message(7, 7, 126)
	frame := slowFrame(well)
	bad := [][]byte{nil, {1}, make([]byte, 8), make([]byte, 9), make([]byte, 521), make([]byte, 522), make([]byte, 5000)}
	for n := 513; n < 530; n++ {
		bad = append(bad, slowStuff(slowInside(message(1, 1, make([]byte, n)...))))
		bad = append(bad, slowStuff(slowInside(message(1, 1, bytes.Repeat([]byte{126}, n)...))))
	}
	for _, m := range messages(t) {
		b := slowStuff(slowInside(m))
		bad = append(bad, b[:len(b)-1], b[1:], append(bytes.Clone(b), 125), append(bytes.Clone(b), 0), append([]byte{125}, b...))
		bad = append(bad, append([]byte{b[0] ^ 128}, b[1:]...))
	}
	for k := range 5 {
		told := make([]byte, k)
		bad = append(bad, slowStuff(binary.LittleEndian.AppendUint32(told, crc32.ChecksumIEEE(told))))
	}
	for _, b := range bad {
		all := join(frame, b, frame)
		scanWell(t, all, []api.Message{well, well}, len(all)-1)
		scanWell(t, join([]byte{126}, b, []byte{126}), nil, len(b)+1)
	}
}

// P4.2, P4.3: MaxText bytes, and one more.
func TestAtMaxText(t *testing.T) {
	m := message(1, 2, 126)
	frame := slowFrame(m)
	full := bytes.Repeat(frame, api.MaxText/len(frame))
	full = append(make([]byte, api.MaxText-len(full)), full...)
	want := make([]api.Message, api.MaxText/len(frame))
	for i := range want {
		want[i] = m
	}
	scanWell(t, full, want, api.MaxText-1)
	scanWell(t, bytes.Repeat([]byte{126}, api.MaxText), nil, api.MaxText-1)
	scanWell(t, make([]byte, api.MaxText), nil, -1)
	if got, e := New().Feed(full); e != api.OK {
		t.Error(e)
	} else {
		same(t, got, want)
	}
	for _, b := range [][]byte{append([]byte{0}, full...), append(bytes.Clone(full), 126), make([]byte, api.MaxText+1), bytes.Repeat([]byte{126}, api.MaxText+1), make([]byte, 1<<17)} {
		if got, place, e := Scan(b); len(got) != 0 || place != 0 || e != api.ErrText {
			t.Error("Scan", len(b), len(got), place, e)
		}
		if got, e := New().Feed(b); len(got) != 0 || e != api.ErrText {
			t.Error("Feed", len(b), len(got), e)
		}
	}
}

// feed hands a reader the bytes in pieces, and holds each answer against what ends in that piece.
func feed(t *testing.T, b []byte, cuts func() int) []api.Message {
	t.Helper()
	r, all := New(), []api.Message{}
	for at := 0; at < len(b); {
		k := min(cuts(), len(b)-at)
		list, e := r.Feed(b[at : at+k])
		if e != api.OK {
			t.Fatal(e)
		}
		at += k
		all = append(all, list...)
		want, _ := slowScan(b[:at])
		same(t, all, want)
	}
	return all
}

// P4.3, P4.5: whole, byte by byte, and in any pieces, none among them.
func TestFeedInPieces(t *testing.T) {
	chance := rand.New(rand.NewPCG(4, 6))
	for range 150 {
		b := noise(chance, chance.IntN(6))
		want, _, e := Scan(b)
		if e != api.OK {
			t.Fatal(e)
		}
		for _, most := range []int{2, 3, 8, 100, 1000} {
			same(t, feed(t, b, func() int { return chance.IntN(most) }), want)
		}
		same(t, feed(t, b, func() int { return len(b) }), want)
	}
	for range 10 {
		b := noise(chance, 4)
		want, _, _ := Scan(b)
		same(t, feed(t, b, func() int { return 1 }), want)
	}
}

// P4.3: every seam through two frames, of one end and of two between them.
func TestFeedOverEachSeam(t *testing.T) {
	m, n := message(126, 125, 126, 125, 3), message(2, 126<<8, 125)
	for _, b := range [][]byte{join(slowFrame(m), slowFrame(n)), join(slowFrame(m), slowFrame(n)[1:])} {
		first := len(slowFrame(m))
		for k := range len(b) + 1 {
			r := New()
			list, e := r.Feed(b[:k])
			if e != api.OK || (len(list) > 0) != (k >= first) {
				t.Error(k, list, e)
			}
			rest, e := r.Feed(b[k:])
			if e != api.OK {
				t.Error(k, e)
			}
			same(t, append(list, rest...), []api.Message{m, n})
		}
	}
}

// P4.3
func TestFeedOfAReaderThatNewDidNotMake(t *testing.T) {
	var none *Reader
	copied := *New()
	for _, r := range []*Reader{none, {}, new(Reader), &copied} {
		for _, b := range [][]byte{nil, {}, {126}, slowFrame(message(1, 2)), make([]byte, api.MaxText+1)} {
			for range 2 {
				if list, e := r.Feed(b); len(list) != 0 || e != api.ErrNil {
					t.Error(len(b), list, e)
				}
			}
		}
	}
	if New() == nil || New() == New() {
		t.Error("New answers one reader twice, or none")
	}
}

// R2: what a copy is fed does not come to the reader that it was copied from.
func TestACopyOfAReaderDoesNotDisturbIt(t *testing.T) {
	m := message(1, 2, 3, 4, 5)
	b := slowFrame(m)
	r := New()
	r.Feed(b[:8])
	copied := *r
	copied.Feed([]byte{9, 9, 9})
	list, e := r.Feed(b[8:])
	if e != api.OK {
		t.Error(e)
	}
	same(t, list, []api.Message{m})
}

// P4.3: with an error nothing has changed.
func TestFeedOfTooMuchChangesNothing(t *testing.T) {
	m := message(1, 2, 126, 125)
	b := slowFrame(m)
	for k := range len(b) + 1 {
		r := New()
		list, _ := r.Feed(b[:k])
		for _, x := range []byte{0, 93, 125, 126} {
			if got, e := r.Feed(bytes.Repeat([]byte{x}, api.MaxText+1)); len(got) != 0 || e != api.ErrText {
				t.Error(k, x, got, e)
			}
		}
		rest, _ := r.Feed(b[k:])
		same(t, append(list, rest...), []api.Message{m})
	}
}

// P4.3: a reader that has no bytes takes what is ahead of the first end for no piece.
func TestFeedAheadOfTheFirstEnd(t *testing.T) {
	m := message(1, 2)
	b := slowFrame(m)
	r := New()
	for i := 1; i < len(b); i++ {
		if list, e := r.Feed(b[i : i+1]); len(list) != 0 || e != api.OK {
			t.Error(i, list, e)
		}
	}
	list, _ := r.Feed(b[1:])
	same(t, list, []api.Message{m})
}

// P4.3, W8: pieces far longer than MaxText in all, behind which frames are found; what is kept meanwhile is bounded.
func TestFeedOfAPieceWithoutEnd(t *testing.T) {
	m := message(1, 2, 3)
	for _, x := range []byte{0, 93, 125} {
		r := New()
		for round := range 3 {
			for range 40 {
				if list, e := r.Feed(bytes.Repeat([]byte{x}, api.MaxText)); len(list) != 0 || e != api.OK {
					t.Fatal(round, list, e)
				}
				if cap(r.under.bare) > 2048 {
					t.Fatal("it keeps", cap(r.under.bare))
				}
			}
			list, e := r.Feed(slowFrame(m))
			if e != api.OK {
				t.Error(e)
			}
			same(t, list, []api.Message{m})
		}
	}
}

// P4.3: a long inside, stuffed as long as can be, comes byte by byte; one byte more of Body is no message.
func TestFeedOfTheLongestPieces(t *testing.T) {
	for _, n := range []int{511, 512, 513, 514} {
		for _, x := range []byte{0, 125, 126} {
			m := message(x, uint32(x)*0x01010101, bytes.Repeat([]byte{x}, n)...)
			var want []api.Message
			if n <= 512 {
				want = []api.Message{m, m}
			}
			r, got := New(), []api.Message{}
			for _, y := range join(slowFrame(m), slowFrame(m)) {
				list, e := r.Feed([]byte{y})
				if e != api.OK {
					t.Fatal(e)
				}
				got = append(got, list...)
			}
			same(t, got, want)
		}
	}
}

// P4.3, R2: readers know nothing of one another, and Scan knows nothing of any.
func TestReadersAreApart(t *testing.T) {
	m, n := message(1, 2, 126), message(3, 4, 125)
	a, b := slowFrame(m), slowFrame(n)
	one, other := New(), New()
	var fromOne, fromOther []api.Message
	for i := range max(len(a), len(b)) {
		list, _ := one.Feed(a[min(i, len(a)):min(i+1, len(a))])
		fromOne = append(fromOne, list...)
		list, _ = other.Feed(b[min(i, len(b)):min(i+1, len(b))])
		fromOther = append(fromOther, list...)
		scanWell(t, b, []api.Message{n}, len(b)-1)
	}
	same(t, fromOne, []api.Message{m})
	same(t, fromOther, []api.Message{n})
}

// P4.5: frames behind any bytes and ahead of any; nothing else between their ends.
func TestFramesAmongAnyBytes(t *testing.T) {
	chance := rand.New(rand.NewPCG(4, 7))
	for range 1500 {
		var frames []byte
		var list []api.Message
		for range 1 + chance.IntN(4) {
			m := someMessage(chance)
			b, _ := Write(m)
			frames, list = append(frames, b...), append(list, m)
		}
		ahead, behind := noise(chance, chance.IntN(4)), noise(chance, chance.IntN(4))
		// What is ahead has its last piece ended by the first end, and what is behind its first one begun by the last end.
		before, _, _ := Scan(append(bytes.Clone(ahead), 126))
		after, _, _ := Scan(append([]byte{126}, behind...))
		all := join(ahead, frames, behind)
		if len(all) > api.MaxText {
			continue
		}
		got, _, e := Scan(all)
		if e != api.OK || len(got) != len(before)+len(list)+len(after) {
			t.Fatal(len(got), len(before), len(list), len(after), e)
		}
		same(t, got[:len(before)], before)
		same(t, got[len(before):len(before)+len(list)], list)
		same(t, got[len(before)+len(list):], after)
	}
}

// P4.2, P4.5: a frame with one bit turned is not found, and its neighbours are.
func TestOneBitTurned(t *testing.T) {
	m, n := message(1, 2, 125, 9), message(4, 5, 126)
	ahead, frame, behind := slowFrame(n), slowFrame(m), slowFrame(n)
	for i := 8; i < 8*(len(frame)-1); i++ {
		other := bytes.Clone(frame)
		other[i/8] ^= 1 << (i % 8)
		all := join(ahead, other, behind)
		scanWell(t, all, []api.Message{n, n}, len(all)-1)
	}
}

// P4.4: bytes with spare room behind them, which a call might write into.
func TestWhatIsHandedInIsOnlyRead(t *testing.T) {
	chance := rand.New(rand.NewPCG(4, 8))
	for range 300 {
		room := join(noise(chance, 3), slowFrame(someMessage(chance)), make([]byte, 64))
		was := bytes.Clone(room)
		b := room[:len(room)-64]
		r := New()
		r.Feed(b)
		r.Feed(b)
		Scan(b)
		Stuff(b)
		Bare(b)
		Open(b)
		told := b[:min(len(b), 512)]
		Inside(api.Message{Kind: 1, Seq: 2, Body: told})
		Write(api.Message{Kind: 1, Seq: 2, Body: told})
		if !bytes.Equal(room, was) {
			t.Fatal("changed", room, was)
		}
	}
	for _, m := range messages(t) {
		for _, b := range [][]byte{slowInside(m), slowStuff(slowInside(m)), slowFrame(m)} {
			room := append(b, make([]byte, 64)...)
			was := bytes.Clone(room)
			Open(room[:len(b)])
			Bare(room[:len(b)])
			Scan(room[:len(b)])
			if !bytes.Equal(room, was) {
				t.Fatal("changed", m)
			}
		}
	}
}

// spoil writes over a list and its spare room.
func spoil(b []byte) {
	b = b[:cap(b)]
	for i := range b {
		b[i] ^= 255
	}
}

// P4.4: an answer is changed, and neither what was handed in nor another answer is.
func TestWhatIsAnsweredIsNew(t *testing.T) {
	for _, m := range append(messages(t), message(1, 2, 3, 4, 5, 6)) {
		body, inside, frame := bytes.Clone(m.Body), slowInside(m), slowFrame(m)
		b, _ := Inside(m)
		spoil(b)
		b, _ = Write(m)
		spoil(b)
		plain := []byte{1, 2, 3}
		spoil(Stuff(plain))
		b, _ = Bare(plain)
		spoil(b)
		if !bytes.Equal(m.Body, body) || !bytes.Equal(plain, []byte{1, 2, 3}) {
			t.Error("shared with an argument", m.Kind, m.Seq)
		}
		opened, _ := Open(inside)
		spoil(opened.Body)
		if !bytes.Equal(inside, slowInside(m)) {
			t.Error("Open shares", m.Kind, m.Seq)
		}
		list, _, _ := Scan(frame)
		spoil(list[0].Body)
		if !bytes.Equal(frame, slowFrame(m)) {
			t.Error("Scan shares", m.Kind, m.Seq)
		}
	}
}

// P4.4: what was handed in is changed, and no answer is.
func TestWhatIsHandedInIsNotKept(t *testing.T) {
	m := message(1, 2, 3, 4, 5, 6)
	inside, frame, stuffed := slowInside(m), slowFrame(m), slowStuff(slowInside(m))
	opened, _ := Open(inside)
	spoil(inside)
	list, _, _ := Scan(frame)
	bare, _ := Bare(stuffed)
	spoil(stuffed)
	if !sameMessage(opened, m) || !bytes.Equal(bare, slowInside(m)) {
		t.Error(opened, bare)
	}
	r := New()
	half := bytes.Clone(frame[:9])
	r.Feed(half)
	spoil(half)
	rest := bytes.Clone(frame[9:])
	fed, _ := r.Feed(rest)
	spoil(rest)
	spoil(frame)
	same(t, list, []api.Message{m})
	same(t, fed, []api.Message{m})
}

// P4.4: the Bodies of one answer share no room, nor with what comes from a reader that is fed again, nor with what it keeps.
func TestBodiesShareNothing(t *testing.T) {
	var frames []byte
	var want []api.Message
	for i := range 20 {
		m := message(1, uint32(i), bytes.Repeat([]byte{byte(i)}, 10+i)...)
		frames, want = append(frames, slowFrame(m)...), append(want, m)
	}
	for k := range 60 {
		r := New()
		first, _ := r.Feed(frames[:len(frames)/2+k])
		held := len(first)
		second, _ := r.Feed(frames[len(frames)/2+k:])
		same(t, first, want[:held])
		all := append(first, second...)
		same(t, all, want)
		for i := range all {
			spoil(all[i].Body)
			same(t, all[i+1:], want[i+1:])
		}
	}
	r := New()
	cut := len(frames) - 6
	list, _ := r.Feed(frames[:cut])
	for i := range list {
		spoil(list[i].Body)
	}
	list, _ = r.Feed(frames[cut:])
	same(t, list, want[19:])
}

// The longest frame is well below MaxText, so that one always fits into a feed.
func TestTheLongestFrameFits(t *testing.T) {
	b, e := Write(message(126, 126<<24|126<<16|126<<8|126, bytes.Repeat([]byte{126}, api.MaxBody)...))
	if e != api.OK || len(b) > 2*(api.MaxBody+9)+2 || len(b) < 2*(api.MaxBody+5)+4+2 {
		t.Error(len(b), e)
	}
}

// The room for what is under way is used again: a reader in its stride makes no new one.
func TestRoomIsUsedAgain(t *testing.T) {
	r := New()
	b := slowFrame(message(1, 1, make([]byte, 512)...))
	r.Feed(b)
	was := &r.under.bare[:1][0]
	for range 10 {
		r.Feed(b)
		if &r.under.bare[:1][0] != was || len(r.under.bare) != 0 {
			t.Fatal("new room")
		}
	}
}
