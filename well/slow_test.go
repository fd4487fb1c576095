package well

import (
	"math"
	"math/rand/v2"
	"slices"

	"stopline/api"
)

const (
	allSet  = uint64(math.MaxUint64)
	highest = uint64(1) << 63
)

// What the chapter says, word by word and bit by bit, and by other means than the package.

// newest are the last ticks, the newest one first.
func newest(w api.Well) []bool {
	list := make([]bool, 0, 64)
	for range 64 {
		list = append(list, w.Bits%2 == 1)
		w.Bits /= 2
	}
	return list
}

// packed is a link's last ticks again.
func packed(list []bool) api.Well {
	w := api.Well{}
	for _, x := range slices.Backward(list) {
		w.Bits *= 2
		if x {
			w.Bits++
		}
	}
	return w
}

func slowNext(w api.Well, got bool) api.Well {
	return packed(append([]bool{got}, newest(w)[:63]...))
}

// gotIn is in how many of these ticks something came.
func gotIn(list []bool) int {
	many := 0
	for _, got := range list {
		if got {
			many++
		}
	}
	return many
}

func slowShare(w api.Well, window int) (int64, api.Errno) {
	if window <= 0 || window >= 65 {
		return 0, api.ErrArg
	}
	return int64(gotIn(newest(w)[:window]) * 65536 / window), api.OK
}

// slowPoor holds the ticks themselves against the bound: many / window rounded down to whole units is below a whole bound just if many / window is.
func slowPoor(w api.Well, window int, bound int64) (bool, api.Errno) {
	if window <= 0 || window >= 65 {
		return false, api.ErrArg
	}
	if bound <= -1 || bound >= 65537 {
		return false, api.ErrArg
	}
	return int64(gotIn(newest(w)[:window]))*65536 < bound*int64(window), api.OK
}

// ticks reads ticks, the oldest one first: 1 is one in which something came.
func ticks(text string) []bool {
	list := []bool{}
	for _, r := range text {
		list = append(list, r == '1')
	}
	return list
}

// told writes them again.
func told(list []bool) string {
	text := []byte{}
	for _, x := range list {
		if x {
			text = append(text, '1')
		} else {
			text = append(text, '0')
		}
	}
	return string(text)
}

func after(w api.Well, list []bool) api.Well {
	for _, got := range list {
		w = Next(w, got)
	}
	return w
}

// lasts are last ticks of all kinds: none, one and two bits, all, and all but some, every second one, and many at random.
func lasts() []api.Well {
	list := []api.Well{{}, {Bits: 0x5555555555555555}, {Bits: 0xaaaaaaaaaaaaaaaa}, {Bits: 5}, {Bits: 13}, {Bits: highest | 1}}
	for i := range 64 {
		list = append(list, api.Well{Bits: 1 << i}, api.Well{Bits: allSet >> i}, api.Well{Bits: allSet << i}, api.Well{Bits: allSet ^ 1<<i})
		for j := range i {
			list = append(list, api.Well{Bits: 1<<i | 1<<j})
		}
	}
	source := rand.New(rand.NewPCG(21, 1))
	for range 1000 {
		x := source.Uint64()
		list = append(list, api.Well{Bits: x}, api.Well{Bits: x & source.Uint64()}, api.Well{Bits: x | source.Uint64()})
	}
	return list
}

func badWindows() []int {
	return []int{math.MinInt, math.MinInt + 1, -1 << 32, -65, -64, -63, -2, -1, 0, 65, 66, 127, 128, 129, 1 << 31, 1<<32 + 1, math.MaxInt - 1, math.MaxInt}
}

func windows() []int {
	list := badWindows()
	for window := range 64 {
		list = append(list, window+1)
	}
	return list
}

func badBounds() []int64 {
	return []int64{math.MinInt64, math.MinInt64 + 1, -api.Top, -api.Unit, -2, -1, api.Unit + 1, api.Unit + 2, 1 << 32, api.Top, math.MaxInt64 - 1, math.MaxInt64}
}

// bounds are bounds of all kinds, beside a share as well.
func bounds(share int64) []int64 {
	return append(badBounds(), 0, 1, 2, 1023, 1024, 1025, api.Unit/2, api.Unit-1, api.Unit, share-1, share, share+1)
}
