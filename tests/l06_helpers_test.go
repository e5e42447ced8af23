package tests

import (
	"fmt"
	"math"
	"math/rand"
	"slices"
	"strconv"
	"strings"

	"loop.example/g01311/impl"
)

// wearArgs are arguments for the functions of chapter 6, each of which takes some of them.
type wearArgs struct {
	f                     impl.Frame
	d                     impl.Drum
	w, x                  impl.Wear
	v                     impl.Lives
	turns                 int64
	step, track           int64
	toStep, toTrack       int64
	pinPrice, hammerPrice int64
	act                   impl.Act
	acts                  []impl.Act
	choices               []impl.Lives
	text                  string
}

func (a wearArgs) String() string {
	return fmt.Sprintf("%s; %s; %s; %s; %v; %d; %d/%d %d/%d; %d %d; %v; %v; %v; %q", rawFrame(a.f), rawDrum(a.d), rawWear(a.w), rawWear(a.x), a.v, a.turns, a.step, a.track, a.toStep, a.toTrack, a.pinPrice, a.hammerPrice, a.act, a.acts, a.choices, a.text)
}

// rawWear shows a wear by its numbers, whether it is valid or not.
func rawWear(w impl.Wear) string {
	var parts []string
	for _, p := range w.Pins {
		parts = append(parts, fmt.Sprintf("%d/%d:%d", p.Step, p.Track, p.Turns))
	}
	return strings.Join(append(parts, fmt.Sprint(w.Strokes)), " ")
}

// worn makes a wear of what rawWear shows.
func worn(text string) impl.Wear {
	pins, strokes, found := strings.Cut(text, "[")
	w := impl.Wear{}
	for _, part := range strings.Fields(pins) {
		var p impl.WornPin
		if count, err := fmt.Sscanf(part, "%d/%d:%d", &p.Step, &p.Track, &p.Turns); count != 3 || err != nil {
			panic("no wear: " + text)
		}
		w.Pins = append(w.Pins, p)
	}
	for _, part := range strings.Fields(strings.TrimSuffix(strokes, "]")) {
		n, err := strconv.ParseInt(part, 10, 64)
		if err != nil {
			panic("no wear: " + text)
		}
		w.Strokes = append(w.Strokes, n)
	}
	if !found || rawWear(w) != text {
		panic("no wear: " + text)
	}
	return w
}

// acts makes a list of words and numbers, the acts being separated by commas; a number in place of a word is that of a kind.
func acts(text string) []impl.Act {
	list := []impl.Act{}
	for _, part := range strings.Split(text, ",") {
		words := strings.Fields(part)
		if len(words) == 0 {
			continue
		}
		kind := slices.Index([]string{"turn", "hammer", "pin", "move"}, words[0])
		if kind == -1 {
			kind, _ = strconv.Atoi(words[0])
		}
		var numbers [4]int64
		for i, word := range words[1:] {
			n, err := strconv.ParseInt(word, 10, 64)
			if err != nil {
				panic("no acts: " + text)
			}
			numbers[i] = n
		}
		list = append(list, impl.Act{Kind: int8(kind), A: numbers[0], B: numbers[1], C: numbers[2], D: numbers[3]})
	}
	return list
}

// randomWorn is the wear of a drum, the pins having made up to some turns, and the hammers up to some strokes.
func randomWorn(random *rand.Rand, f impl.Frame, d impl.Drum, turns, strokes int) impl.Wear {
	w := impl.Wear{}
	for _, p := range ordered(placesOf(d)) {
		w.Pins = append(w.Pins, impl.WornPin{Step: int8(p.step), Track: int8(p.track), Turns: int64(random.Intn(turns + 1))})
	}
	for range f.Hammers {
		w.Strokes = append(w.Strokes, int64(random.Intn(strokes+1)))
	}
	return w
}

// nearPlace is a place of a frame, or, now and then, one beside it.
func nearPlace(random *rand.Rand, f impl.Frame) place {
	p := place{random.Int63n(int64(f.Steps)), random.Int63n(int64(len(f.Hammers)))}
	switch random.Intn(16) {
	case 0:
		p.step = int64(f.Steps)
	case 1:
		p.track = int64(len(f.Hammers))
	case 2:
		p.step = -1
	case 3:
		p.track = -1
	}
	return p
}

// nearPin is a place at which a wear has a pin, or, now and then, any other one.
func nearPin(random *rand.Rand, f impl.Frame, w impl.Wear) place {
	if len(w.Pins) == 0 || random.Intn(5) == 0 {
		return nearPlace(random, f)
	}
	p := w.Pins[random.Intn(len(w.Pins))]
	return place{int64(p.Step), int64(p.Track)}
}

// randomAct can mostly be done to a wear.
func randomAct(random *rand.Rand, f impl.Frame, w impl.Wear, most int) impl.Act {
	from, to := nearPin(random, f, w), nearPlace(random, f)
	switch random.Intn(9) {
	case 0, 1, 2:
		turns := random.Intn(most + 2)
		if random.Intn(60) == 0 {
			turns = -1
		}
		return impl.Act{Kind: impl.AcTurn, A: int64(turns)}
	case 3, 4:
		return impl.Act{Kind: impl.AcHammer, A: to.track}
	case 5, 6:
		return impl.Act{Kind: impl.AcPin, A: from.step, B: from.track}
	case 7:
		return impl.Act{Kind: impl.AcMove, A: from.step, B: from.track, C: to.step, D: to.track}
	}
	a := impl.Act{Kind: int8(random.Intn(6) - 1), A: from.step, B: from.track, C: to.step, D: to.track}
	if random.Intn(3) > 0 {
		a.Kind, a.A = impl.AcTurn, 0
	}
	return a
}

func randomLives(random *rand.Rand) impl.Lives {
	return impl.Lives{Pin: int64(1 + random.Intn(30)), Hammer: int64(1 + random.Intn(90))}
}

// randomWear is mostly such that the functions have something to tell.
func randomWear(random *rand.Rand) wearArgs {
	a := wearArgs{f: randomFrame(random), v: randomLives(random)}
	a.d = randomDrum(random, a.f, 1+random.Intn(14))
	over := random.Intn(8) / 7
	a.w = randomWorn(random, a.f, a.d, int(a.v.Pin)+over, int(a.v.Hammer)+over)
	a.x = a.w
	if random.Intn(2) == 0 {
		a.x = randomWorn(random, a.f, a.d, 1, 1)
	}
	a.turns = int64(random.Intn(40))
	switch random.Intn(12) {
	case 0:
		a.turns = -1
	case 1:
		a.turns = impl.MaxTurns + 1
	case 2:
		// A few strokes more are too many for any wear then.
		a.w.Strokes[random.Intn(len(a.w.Strokes))] = impl.MaxTurns - int64(random.Intn(20))
	}
	from, to := nearPin(random, a.f, a.w), nearPlace(random, a.f)
	a.step, a.track, a.toStep, a.toTrack = from.step, from.track, to.step, to.track
	a.act = randomAct(random, a.f, a.w, 3)
	for range random.Intn(7) {
		a.acts = append(a.acts, randomAct(random, a.f, a.w, 2))
	}
	if random.Intn(12) == 0 {
		a.acts = slices.Repeat([]impl.Act{{}}, 61)
	}
	for range random.Intn(5) {
		a.choices = append(a.choices, randomLives(random))
	}
	a.pinPrice, a.hammerPrice = int64(random.Intn(5)), int64(random.Intn(5))
	a.text = randomLog(random, a.acts)
	return a
}

// randomLog is the text of acts, or, now and then, one that lacks a character.
func randomLog(random *rand.Rand, list []impl.Act) string {
	text := modelActsText(list)
	if text == "" || random.Intn(3) > 0 {
		return text
	}
	cut := random.Intn(len(text))
	return text[:cut] + text[cut+1:]
}

// wearsFor are valid wears for a frame: with no pins, with all of them, and with numbers that are limits.
func wearsFor(f impl.Frame) []impl.Wear {
	random := rand.New(rand.NewSource(int64(f.Steps) + 110))
	last, top := f.Steps-1, uint32(1)<<(len(f.Hammers)-1)
	ends := impl.Drum{0: 1}
	ends[last] |= top
	var list []impl.Wear
	for _, d := range []impl.Drum{{}, ends, fullDrum(f), spacedDrum(f, 0, 0), randomDrum(random, f, 4)} {
		for _, most := range []int{0, 3, impl.MaxTurns} {
			list = append(list, randomWorn(random, f, d, most, most))
		}
	}
	greatest := worn("0/0:1000000 [1000000]")
	greatest.Strokes = slices.Repeat(greatest.Strokes, len(f.Hammers))
	return append(list, greatest)
}

// invalidWearsFor are wears that are none for a frame.
func invalidWearsFor(f impl.Frame) []impl.Wear {
	steps, tracks := int(f.Steps), len(f.Hammers)
	strokes := make([]int64, tracks)
	list := []impl.Wear{
		{},
		{Strokes: make([]int64, tracks-1)},
		{Strokes: make([]int64, tracks+1)},
		{Pins: worn("0/0:0 []").Pins, Strokes: make([]int64, tracks+1)},
	}
	places := []string{
		"0/0:0 0/0:0", "0/0:1 0/0:2", "0/0:2 0/0:1", "1/0:0 0/0:0", "0/0:0 1/0:0 1/0:0", "0/0:0 1/0:0 0/0:0",
		fmt.Sprintf("%d/0:0", steps), fmt.Sprintf("0/0:0 %d/0:0", steps), fmt.Sprintf("0/%d:0", tracks), fmt.Sprintf("0/%d:0 1/0:0", tracks),
		"-1/0:0", "0/-1:0", "-1/0:0 0/0:0", "0/-1:0 0/0:0", "-128/0:0", "127/0:0", "0/-128:0", "0/127:0",
		"0/0:-1", "0/0:1000001", "0/0:-9223372036854775808", "0/0:9223372036854775807", "0/0:4294967296", "0/0:0 1/0:1000001",
	}
	if tracks > 1 {
		places = append(places, "0/1:0 0/0:0", "0/0:0 1/1:0 1/0:0")
	}
	for _, text := range places {
		list = append(list, impl.Wear{Pins: worn(text + " []").Pins, Strokes: strokes})
	}
	for _, index := range []int{0, tracks - 1} {
		for _, n := range []int64{-1, impl.MaxTurns + 1, math.MinInt64, math.MaxInt64, 1 << 32} {
			bad := impl.Wear{Strokes: slices.Clone(strokes)}
			bad.Strokes[index] = n
			list = append(list, bad)
		}
	}
	return list
}

func invalidLives() []impl.Lives {
	var list []impl.Lives
	for _, n := range []int64{0, -1, impl.MaxLife + 1, math.MinInt64, math.MaxInt64, -1 << 32, 1 << 32, 1<<32 + 5} {
		list = append(list, impl.Lives{Pin: n, Hammer: 5}, impl.Lives{Pin: 5, Hammer: n}, impl.Lives{Pin: n, Hammer: n})
	}
	return append(list, impl.Lives{})
}

// wearNumbers are limits of turns, steps, tracks and prices, the numbers beside them, and numbers that are others when bits are lost.
func wearNumbers() []int64 {
	list := slices.Clone(drumNumbers)
	list = append(list, 4, 6, 9, 10, 11, 59, 60, 61, 128, 255, 999, 1000, 1001, 999999, 1000000, 1000001, -1000000, -1000001, 1<<16+1, 1<<32+7, -1<<32+1, math.MaxInt64-1000000)
	slices.Sort(list)
	return slices.Compact(list)
}
