package lamp

import (
	"math/rand/v2"
	"testing"

	"stopline/api"
)

// asker tells what is asked at a tick of a group that stands so.
type asker func(tick int, s api.Seen) uint8

func askers() []asker {
	source := rand.New(rand.NewPCG(7, 5))
	list := []asker{
		func(int, api.Seen) uint8 { return uint8(source.IntN(256)) },
		func(int, api.Seen) uint8 { return uint8(source.IntN(5)) },
		func(int, api.Seen) uint8 { return api.Red + uint8(source.IntN(2)) },
		func(tick int, _ api.Seen) uint8 { return uint8(tick) },
		func(tick int, _ api.Seen) uint8 { return api.Red + uint8(tick/7%2) },
		func(_ int, s api.Seen) uint8 { return behind()[s.Aspect] },
		func(_ int, s api.Seen) uint8 { return s.Aspect },
	}
	for _, a := range someAspects() {
		list = append(list, func(int, api.Seen) uint8 { return a })
	}
	return append(list, impatient)
}

// impatient asks for green of what is not, and for red of what is: so each green and each yellow is as short as can be.
func impatient(_ int, s api.Seen) uint8 {
	if s.Aspect == api.Green {
		return api.Red
	}
	return api.Green
}

// spell is ticks in a row that show the same.
type spell struct {
	aspect uint8
	long   int
}

// run is what a group shows, spell by spell, from a standing on; the spell that was under way at first, and the one that is at last, are not of it. Each tick's standing is held against what was shown, counted apart.
func run(t *testing.T, g api.Group, s api.Seen, ticks int, ask asker) []spell {
	t.Helper()
	var list []spell
	now, ended := spell{s.Aspect, slowCount(s.Since)}, slowCount(s.Ended)
	for tick := range ticks {
		shows := Want(g, s, ask(tick, s))
		if _, goes := behind()[s.Aspect]; goes && May(g, s, shows) != api.FaultNone {
			t.Fatal("a fault", g, s, shows)
		}
		s = Next(g, s, shows)
		if shows != now.aspect {
			list = append(list, now)
			now = spell{aspect: shows}
		}
		now.long++
		ended++
		if shows == api.Green {
			ended = 0
		}
		if want := (api.Seen{Aspect: shows, Since: min(now.long, top), Ended: min(ended, top)}); s != want {
			t.Fatal("Next", g, s, "not", want)
		}
	}
	if len(list) == 0 {
		return nil
	}
	return list[1:]
}

// holdSpells asks P7.5 of what was shown, and tells how many greens and yellows ended.
func holdSpells(t *testing.T, g api.Group, list []spell) int {
	t.Helper()
	many := 0
	for i, x := range list {
		if i > 0 && !slowFollows(list[i-1].aspect, x.aspect) {
			t.Fatal("what follows", g, list[i-1], x)
		}
		switch x.aspect {
		case api.Green:
			many++
			if x.long < g.Min {
				t.Fatal("a green that is too short", g, x)
			}
		case api.Yellow:
			many++
			if x.long != max(g.Yellow, 1) {
				t.Fatal("a yellow that is too short, or too long", g, x)
			}
		}
	}
	return many
}

func firsts() []api.Seen {
	list := []api.Seen{{}, {Aspect: api.Red, Since: 1, Ended: top}}
	for _, a := range someAspects() {
		for _, n := range []int{-1, 0, 1, 2, 5, top - 1, top, top + 1} {
			list = append(list, api.Seen{Aspect: a, Since: n, Ended: n})
		}
	}
	return list
}

// P7.5: groups that a site may have, and those whose numbers are too low for one, from any standing on, whatever is asked.
func TestLongRuns(t *testing.T) {
	for _, low := range []int{-3, 0, 1, 2, 3, 10} {
		for _, yellow := range []int{-3, 0, 1, 2, 3, 10} {
			g, many := api.Group{Kind: api.Feet, Min: low, Yellow: yellow}, 0
			for i, ask := range askers() {
				many += holdSpells(t, g, run(t, g, api.Seen{Aspect: api.Red, Since: 1, Ended: top}, 3000, ask))
				for k, s := range firsts() {
					if (i+k)%3 == 0 {
						holdSpells(t, g, run(t, g, s, 150, ask))
					}
				}
			}
			if many < 300 {
				t.Error("few ended", g, many)
			}
		}
	}
}

// P7.5: what is asked to be short is just as short as it may be, and what is asked to stay green does.
func TestShortestRuns(t *testing.T) {
	for _, low := range []int{-3, 0, 1, 2, 3, 50} {
		for _, yellow := range []int{-3, 0, 1, 2, 3, 50} {
			g := api.Group{Kind: api.Wheels, Min: low, Yellow: yellow}
			list := run(t, g, api.Seen{Aspect: api.Red, Since: 1, Ended: top}, 1000, impatient)
			for i, x := range list {
				want := []spell{{api.Green, max(low, 1)}, {api.Yellow, max(yellow, 1)}, {api.Red, 1}}[i%3]
				if x != want {
					t.Fatal(g, i, x, want)
				}
			}
			if many := 999 / (max(low, 1) + max(yellow, 1) + 1) * 3; len(list) < many {
				t.Error("few ended", g, len(list), many)
			}
			always := func(int, api.Seen) uint8 { return api.Green }
			if list := run(t, g, api.Seen{Aspect: api.Red, Since: 1}, 1000, always); len(list) != 0 {
				t.Error("green ended", g, list)
			}
		}
	}
}

// P7.5: as many ticks as may be counted; one more is never reached, and nothing ends then.
func TestLongestRuns(t *testing.T) {
	first := api.Seen{Aspect: api.Red, Since: 1, Ended: top}
	for i, c := range []struct {
		low, yellow int
		want        []spell
	}{
		{top - 1, 2, []spell{{api.Green, top - 1}, {api.Yellow, 2}, {api.Red, 1}}},
		{top, 2, []spell{{api.Green, top}, {api.Yellow, 2}, {api.Red, 1}}},
		{2, top - 1, []spell{{api.Green, 2}, {api.Yellow, top - 1}, {api.Red, 1}}},
		{2, top, []spell{{api.Green, 2}, {api.Yellow, top}, {api.Red, 1}}},
		{top + 1, 2, nil},
		{2, top + 1, []spell{{api.Green, 2}}},
	} {
		g := api.Group{Kind: api.Wheels, Min: c.low, Yellow: c.yellow}
		list := run(t, g, first, top+20, impatient)
		holdSpells(t, g, list)
		if len(list) < len(c.want) || len(c.want) < 3 && len(list) > len(c.want) {
			t.Error(i, g, list)
			continue
		}
		for k, want := range c.want {
			if list[k] != want {
				t.Error(i, g, k, list[k], want)
			}
		}
	}
}
