package tests

import (
	"fmt"
	"math"
	"math/rand"
	"slices"
	"strings"

	"loop.example/g01311/impl"
)

// chimeArgs are arguments for the functions of chapter 4, each of which takes some of them.
type chimeArgs struct {
	f          impl.Frame
	d          impl.Drum
	p, q       impl.Programme
	n, k       int64 // a section or a step, and a quarter or another step
	pitch, gap int64
	lengths    []int64
	tunes      []impl.Tune
	text       string
}

func (a chimeArgs) String() string {
	var tunes []string
	for _, t := range a.tunes {
		tunes = append(tunes, raw(t))
	}
	return fmt.Sprintf("%s; %s; %s; %s; %d %d %d %d; %v; %q; %q", rawFrame(a.f), rawDrum(a.d), rawProgramme(a.p), rawProgramme(a.q), a.n, a.k, a.pitch, a.gap, a.lengths, tunes, a.text)
}

// rawProgramme shows a programme by its numbers, whether it is valid or not.
func rawProgramme(p impl.Programme) string { return fmt.Sprint(p.Sections, p.Order) }

// sections makes sections of pairs of From and Steps.
func sections(numbers ...int) []impl.Section {
	var list []impl.Section
	for i := 0; i < len(numbers); i += 2 {
		list = append(list, impl.Section{From: int16(numbers[i]), Steps: int16(numbers[i+1])})
	}
	return list
}

// programme makes a programme of the marks of the first quarters, all others being silent, and of pairs of From and Steps, whether it is a valid one or not.
func programme(marks string, numbers ...int) impl.Programme {
	p := impl.Programme{Sections: sections(numbers...)}
	for quarter := range p.Order {
		p.Order[quarter] = -1
		if quarter < len(marks) && marks[quarter] != '.' {
			p.Order[quarter] = int8(marks[quarter] - 'a')
		}
	}
	return p
}

// with returns a programme that has another index at a quarter.
func with(p impl.Programme, quarter int, index int8) impl.Programme {
	p.Order[quarter] = index
	return p
}

// manySections are count sections of one step each, the first one at a step, and each one some steps behind the one before.
func manySections(count, from, by int) []impl.Section {
	var list []impl.Section
	for i := range count {
		list = append(list, impl.Section{From: int16(from + i*by), Steps: 1})
	}
	return list
}

// randomSections fill a drum in part, with gaps between them or with none.
func randomSections(random *rand.Rand, steps int) []impl.Section {
	var list []impl.Section
	count, gap := random.Intn(impl.MaxSections+1), 1+random.Intn(4)
	most := 1 + random.Intn(steps)
	for from := random.Intn(gap); from < steps && len(list) < count; {
		length := 1 + random.Intn(min(most, steps-from))
		list = append(list, impl.Section{From: int16(from), Steps: int16(length)})
		from += length + random.Intn(gap)
	}
	return list
}

func randomProgramme(random *rand.Rand, steps int) impl.Programme {
	p := programme("")
	p.Sections = randomSections(random, steps)
	one := 1 + random.Intn(8)
	for quarter := range p.Order {
		if len(p.Sections) > 0 && random.Intn(one) == 0 {
			p.Order[quarter] = int8(random.Intn(len(p.Sections)))
		}
	}
	return p
}

// programmesFor are valid programmes for a frame.
func programmesFor(f impl.Frame) []impl.Programme {
	steps := int(f.Steps)
	last := with(programme("", steps-1, 1), 47, 0)
	list := []impl.Programme{
		programme(""),
		programme("", 0, 1),
		programme(strings.Repeat("a", 48), 0, steps),
		programme("a.a.a", 0, 1),
		programme("b", 0, 1, 1, 1),
		programme("ab", 0, steps-1, steps-1, 1),
		programme("..b.a.b", 0, 1, 1, steps-1),
		last,
	}
	if steps >= impl.MaxSections {
		most := programme(strings.Repeat("abcdefghijkl", 4))
		most.Sections = manySections(impl.MaxSections, steps-impl.MaxSections, 1)
		apart := programme("lkjihgfedcba")
		apart.Sections = manySections(impl.MaxSections, 0, steps/impl.MaxSections)
		list = append(list, most, apart)
	}
	random := rand.New(rand.NewSource(int64(f.Steps)))
	for range 6 {
		list = append(list, randomProgramme(random, steps))
	}
	return list
}

// invalidProgrammesFor are programmes that are none for a frame.
func invalidProgrammesFor(f impl.Frame) []impl.Programme {
	steps := int(f.Steps)
	list := []impl.Programme{
		{},
		programme("b", 0, 1),
		with(programme("", 0, 1), 47, 1),
		with(programme("", 0, 1), 0, -2),
		with(programme("", 0, 1), 47, math.MinInt8),
		with(programme("", 0, 1), 24, math.MaxInt8),
		with(programme(""), 0, 0),
		programme("", 0, 0),
		programme("", 0, -1),
		programme("", 0, 1, 1, 0),
		programme("", 0, steps+1),
		programme("", 1, steps),
		programme("", steps-1, 2),
		programme("", steps, 1),
		programme("", -1, 1),
		programme("", -1, 2),
		programme("", 0, 1, 0, 1),
		programme("", 1, 1, 0, 1),
		programme("", 0, 2, 1, 1),
		programme("", 0, steps, steps-1, 1),
		programme("", 0, steps, steps, 1),
		programme("", 0, steps, 0, steps),
		programme("", 0, math.MaxInt16),
		programme("", 1, math.MaxInt16),
		programme("", 1, math.MaxInt16, 1, 1),
		programme("", steps-1, math.MaxInt16),
		programme("", math.MaxInt16, math.MaxInt16),
		programme("", math.MinInt16, math.MinInt16),
		programme("", math.MinInt16, math.MaxInt16),
		programme("", 0, math.MinInt16),
	}
	more := programme("")
	more.Sections = manySections(impl.MaxSections+1, 0, 1)
	return append(list, more)
}

// chimeDrums are drums for a frame: with no pins, with all of them, and random ones.
func chimeDrums(f impl.Frame) []impl.Drum {
	random := rand.New(rand.NewSource(int64(f.Steps) + 50))
	last, top := f.Steps-1, uint32(1)<<(len(f.Hammers)-1)
	ends := impl.Drum{0: top}
	ends[last] |= 1
	return []impl.Drum{{}, ends, fullDrum(f), randomDrum(random, f, 2), randomDrum(random, f, 5)}
}

// chimeFrames are a few of the frames, the least and the greatest ones among them.
func chimeFrames() []impl.Frame {
	list := []impl.Frame{
		frame(8, 24, 3, 28, 2),
		frame(2, 0, 1),
		frame(2, 47, 2, 47, 1, 0, 1),
		frame(3, 24, 3, 24, 2),
		frame(11, 24, 3, 26, 2),
		frame(12, 24, 3, 24, 2, 25, 1),
		frame(13, 24, 3, 26, 2),
		frame(95, 0, 20, 47, 1),
		frame(96, 0, 20, 47, 1, 0, 7),
		likeHammers(96, 24, 24, 0, 20),
		likeHammers(96, 24, 0, 2, 1),
		likeHammers(40, 24, 20, 1, 1),
	}
	random := rand.New(rand.NewSource(51))
	for range 8 {
		list = append(list, randomFrame(random))
	}
	return list
}

// randomTunes are tunes of a few notes, some of them with none.
func randomTunes(random *rand.Rand, steps int) []impl.Tune {
	var list []impl.Tune
	for range random.Intn(6) {
		t := impl.Tune{}
		for at := range 1 + random.Intn(1+steps/2) {
			if random.Intn(3) == 0 {
				t = append(t, impl.Note{At: int16(at), Pitch: int8(random.Intn(48))})
			}
		}
		list = append(list, t)
	}
	return list
}

// randomChimes are mostly such that the functions have something to tell.
func randomChimes(random *rand.Rand) chimeArgs {
	a := chimeArgs{f: randomFrame(random)}
	late := random.Intn(4) == 0
	if late {
		a.f.Steps = int16(60 + random.Intn(37))
	}
	steps := int(a.f.Steps)
	a.d = randomDrum(random, a.f, 1+random.Intn(6))
	a.p, a.q = randomProgramme(random, steps), randomProgramme(random, steps)
	a.n, a.k = int64(random.Intn(steps+1)), int64(random.Intn(impl.Quarters))
	if random.Intn(2) == 0 {
		a.n = int64(random.Intn(len(a.p.Sections) + 1))
	}
	a.pitch, a.gap = int64(random.Intn(impl.MaxPitch)), int64(random.Intn(4))
	if late {
		a.k, a.gap = []int64{0, 44, 40}[random.Intn(3)], int64(12+random.Intn(5))
		a.p.Order[a.k] = int8(min(len(a.p.Sections), 1) - 1)
	}
	for range random.Intn(6) {
		a.lengths = append(a.lengths, int64(1+random.Intn(1+steps/3)))
	}
	a.tunes = randomTunes(random, steps)
	a.text = modelProgrammeText(a.q)
	if random.Intn(3) == 0 {
		a.text = modelQuarters()[a.k]
	}
	return a
}

// chimeNumbers are limits of quarters, sections, steps, hours and gaps, the numbers beside them, and numbers that are others when bits are lost.
func chimeNumbers() []int64 {
	list := slices.Clone(drumNumbers)
	list = append(list, 4, 6, 9, 10, 11, 12, 13, 14, 15, 16, 17, 43, 44, 45, 128, 1<<8+12, 1<<16+12, 1<<32+12, -12, -13, -16, -47, -48, -49, math.MinInt64+47)
	slices.Sort(list)
	return slices.Compact(list)
}
