package tests

import (
	"fmt"
	"math"
	"math/rand"
	"slices"
	"strings"

	"loop.example/g01311/impl"
)

// arrArgs are arguments for the functions of chapter 7, each of which takes some of them.
type arrArgs struct {
	f            impl.Frame
	t            impl.Tune
	note         impl.Note
	c            impl.Costs
	x            impl.Choice
	list         []impl.Choice
	budget, from int64
	text         string
}

func (a arrArgs) String() string {
	return fmt.Sprintf("%s; %s; %v; %v; %s; %s; %d %d; %q", rawFrame(a.f), raw(a.t), a.note, a.c, rawChoices([]impl.Choice{a.x}), rawChoices(a.list), a.budget, a.from, a.text)
}

// rawChoices shows choices by their numbers, whether they are valid or not.
func rawChoices(list []impl.Choice) string {
	var parts []string
	for _, x := range list {
		part := fmt.Sprintf("%d/%d/%d", x.Late, x.Octave, x.Track)
		if x == (impl.Choice{Away: true}) {
			part = "x"
		} else if x.Away {
			part = "x:" + part
		}
		parts = append(parts, part)
	}
	return strings.Join(parts, " ")
}

// choices makes a list of what rawChoices shows.
func choices(text string) []impl.Choice {
	list := []impl.Choice{}
	for _, part := range strings.Fields(text) {
		numbers, away := strings.CutPrefix(part, "x")
		x := impl.Choice{Away: away}
		if part != "x" {
			if count, err := fmt.Sscanf(strings.TrimPrefix(numbers, ":"), "%d/%d/%d", &x.Late, &x.Octave, &x.Track); count != 3 || err != nil {
				panic("no choices: " + text)
			}
		}
		list = append(list, x)
	}
	if rawChoices(list) != text {
		panic("no choices: " + text)
	}
	return list
}

// spread makes a frame of so many steps with count hammers for each of some pitches.
func spread(steps, count, ready int, pitches ...int8) impl.Frame {
	f := impl.Frame{Steps: int16(steps)}
	for range count {
		for _, pitch := range pitches {
			f.Hammers = append(f.Hammers, impl.Hammer{Pitch: pitch, Ready: int8(ready)})
		}
	}
	return f
}

// octaveFrame has up to so many hammers, with pitches that are mostly octaves apart.
func octaveFrame(random *rand.Rand, hammers int) impl.Frame {
	steps := 2 + random.Intn(9)
	f := impl.Frame{Steps: int16(steps)}
	most := 1 + random.Intn(steps)
	for range 1 + random.Intn(hammers) {
		pitch := []int8{24, 24, 24, 12, 36, 25}[random.Intn(6)]
		if random.Intn(16) == 0 {
			pitch = []int8{0, 11, 35, 47}[random.Intn(4)]
		}
		f.Hammers = append(f.Hammers, impl.Hammer{Pitch: pitch, Ready: int8(1 + random.Intn(most))})
	}
	return f
}

// nearNote is at a step of a frame, or a few steps behind, and mostly has a pitch that is an octave or two from one of its hammers.
func nearNote(random *rand.Rand, f impl.Frame) impl.Note {
	pitch := int(f.Hammers[random.Intn(len(f.Hammers))].Pitch) + 12*(random.Intn(5)-2)
	if random.Intn(3) > 0 {
		pitch = int(f.Hammers[random.Intn(len(f.Hammers))].Pitch)
	}
	return impl.Note{At: int16(random.Intn(int(f.Steps) + 4)), Pitch: int8(min(max(pitch, 0), 47))}
}

// nearTune has up to so many notes, many of them close together.
func nearTune(random *rand.Rand, f impl.Frame, count int) impl.Tune {
	var list []impl.Note
	for range count {
		n := nearNote(random, f)
		if len(list) > 0 && random.Intn(2) == 0 {
			n.At = min(list[0].At+int16(random.Intn(3)), f.Steps+3)
		}
		list = append(list, n)
	}
	t, _ := impl.MakeTune(list)
	return t
}

// randomCosts are mostly small, so that many choices cost the same.
func randomCosts(random *rand.Rand) impl.Costs {
	cost := func() int16 { return []int16{0, 0, 1, 1, 2, 3, 5, 10, 1000}[random.Intn(9)] }
	return impl.Costs{Away: cost(), Octave: cost(), Step: cost()}
}

// anyChoice is valid, whether there is such a hammer or not.
func anyChoice(random *rand.Rand) impl.Choice {
	return orderedChoices[random.Intn(len(orderedChoices))]
}

// randomChoices are an arrangement that fits, or, now and then, almost one.
func randomChoices(random *rand.Rand, f impl.Frame, t impl.Tune) []impl.Choice {
	m, list := modelOf(f, impl.Drum{}), []impl.Choice{}
	for _, n := range t {
		x := impl.Choice{Away: true}
		for range 4 {
			all := modelChoices(f, n)
			other := all[random.Intn(len(all))]
			if p := placeOf(n, other); !other.Away && m.free(p) {
				x, m = other, m.with(p)
				break
			}
		}
		list = append(list, x)
	}
	if len(list) == 0 {
		return list
	}
	one := random.Intn(len(list))
	switch random.Intn(16) {
	case 0:
		list = list[:len(list)-1]
	case 1:
		list = append(list, anyChoice(random))
	case 2, 3:
		list[one] = anyChoice(random)
	case 4, 5:
		all := modelChoices(f, t[one])
		list[one] = all[random.Intn(len(all))]
	case 6:
		list[one].Track = int8(len(f.Hammers))
		list[one].Away = false
	}
	return list
}

// randomArrangement is mostly such that the functions have something to tell.
func randomArrangement(random *rand.Rand, hammers, notes int) arrArgs {
	a := arrArgs{f: octaveFrame(random, hammers), c: randomCosts(random)}
	a.t = nearTune(random, a.f, random.Intn(notes+1))
	a.note, a.x = nearNote(random, a.f), anyChoice(random)
	switch random.Intn(8) {
	case 0:
		a.note.At -= 4
	case 1:
		a.note.Pitch += 9
	}
	if random.Intn(4) == 0 {
		a.x = impl.Choice{Away: true}
	}
	a.list = randomChoices(random, a.f, a.t)
	a.budget = int64(random.Intn(60))
	switch random.Intn(10) {
	case 0:
		a.budget = -1
	case 1:
		a.budget = impl.MaxLooks + 1
	case 2, 3, 4, 5:
		a.budget = impl.MaxLooks
	}
	a.from = int64(random.Intn(len(a.t)+3) - 1)
	a.text = modelChoicesText(a.list)
	if cut := random.Intn(len(a.text) + 1); cut < len(a.text) && random.Intn(3) == 0 {
		a.text = a.text[:cut] + a.text[cut+1:]
	}
	return a
}

// arrFrames are frames with which the tests of chapter 7 go through other arguments.
func arrFrames() []impl.Frame {
	return []impl.Frame{
		frame(8, 24, 3, 28, 2), frame(8, 24, 3, 28, 2, 24, 3), frame(2, 24, 1), frame(2, 24, 2, 24, 2), frame(3, 12, 2, 24, 3, 36, 1),
		frame(5, 36, 1, 24, 5, 12, 2, 24, 1), frame(9, 0, 4, 12, 9), frame(9, 47, 4, 35, 9), frame(96, 24, 20, 25, 7), frame(20, 24, 20),
	}
}

func invalidCosts() []impl.Costs {
	var list []impl.Costs
	for _, n := range []int16{-1, 1001, math.MinInt16, math.MaxInt16, -1000, 256 * 8} {
		list = append(list, impl.Costs{Away: n}, impl.Costs{Octave: n}, impl.Costs{Step: n}, impl.Costs{Away: n, Octave: n, Step: n}, impl.Costs{Away: 1000, Octave: n, Step: 1000})
	}
	return list
}

func invalidChoices() []impl.Choice {
	return choices("-4/0/0 4/0/0 0/-2/0 0/2/0 0/0/-1 0/0/24 -128/0/0 127/0/0 0/-128/0 0/127/0 0/0/-128 0/0/127 0/0/32 4/2/24 " +
		"x:1/0/0 x:-1/0/0 x:0/1/0 x:0/-1/0 x:0/0/1 x:0/0/-1 x:0/0/23 x:3/1/23 x:-3/-1/0 x:4/0/0 x:0/0/24 x:127/127/127 x:-128/-128/-128")
}

// invalidNotes cannot be in a tune.
func invalidNotes() []impl.Note {
	return notes(-1, 24, 200, 24, 3, -1, 3, 48, -3, 24, 202, 24, 3, -12, 3, 59, -1, -1, 200, 48, math.MinInt16, 24, math.MaxInt16, 24, 3, math.MinInt8, 3, math.MaxInt8, 256, 24)
}

// lookNumbers are limits of budgets and of numbers of notes, the numbers beside them, and numbers that are others when bits are lost.
func lookNumbers() []int64 {
	list := slices.Clone(budgetNumbers)
	list = append(list, 4, 5, 6, 30, 119, 120, 121, 19998, 20002, -20000, 1<<16+20000, 1<<32+5, -1<<32+3)
	slices.Sort(list)
	return slices.Compact(list)
}
