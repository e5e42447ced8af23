package tests

import (
	"fmt"
	"math"
	"math/rand"
	"slices"
	"strings"

	"loop.example/g01311/impl"
)

// drumNumbers are limits of steps, tracks and pitches, the numbers beside them, and numbers that are others when bits are lost.
var drumNumbers = []int64{
	math.MinInt64, math.MinInt64 + 1, -1 << 32, -1 << 16, -256, -97, -96, -25, -24, -2, -1,
	0, 1, 2, 3, 5, 7, 8, 19, 20, 21, 22, 23, 24, 25, 31, 32, 33, 46, 47, 48, 49, 63, 64, 94, 95, 96, 97,
	256, 257, 1 << 16, 1 << 32, 1<<32 + 1, math.MaxInt64 - 96, math.MaxInt64 - 1, math.MaxInt64,
}

// rawFrame shows a frame by its numbers, whether it is valid or not.
func rawFrame(f impl.Frame) string { return fmt.Sprint(f.Steps, " ", f.Hammers) }

// rawDrum shows the steps that have pins, and their numbers.
func rawDrum(d impl.Drum) string {
	var parts []string
	for step, bits := range d {
		if bits != 0 {
			parts = append(parts, fmt.Sprintf("%d:%d", step, bits))
		}
	}
	return strings.Join(parts, " ")
}

// frame makes a frame of pairs of Pitch and Ready, whether it is a valid one or not.
func frame(steps int, numbers ...int) impl.Frame {
	f := impl.Frame{Steps: int16(steps)}
	for i := 0; i < len(numbers); i += 2 {
		f.Hammers = append(f.Hammers, impl.Hammer{Pitch: int8(numbers[i]), Ready: int8(numbers[i+1])})
	}
	return f
}

// likeHammers makes a frame with hammers of one Ready, each one some half steps above the one before.
func likeHammers(steps, count, pitch, by, ready int) impl.Frame {
	f := impl.Frame{Steps: int16(steps)}
	for i := range count {
		f.Hammers = append(f.Hammers, impl.Hammer{Pitch: int8(pitch + i*by), Ready: int8(ready)})
	}
	return f
}

func randomFrame(random *rand.Rand) impl.Frame {
	steps := 2 + random.Intn(20)
	f := impl.Frame{Steps: int16(steps)}
	for range 1 + random.Intn(6) {
		ready := 1 + random.Intn(min(steps, impl.MaxReady))
		f.Hammers = append(f.Hammers, impl.Hammer{Pitch: int8(20 + random.Intn(4)), Ready: int8(ready)})
	}
	return f
}

func validFrames() []impl.Frame {
	list := []impl.Frame{
		frame(8, 24, 3, 28, 2, 24, 3),
		frame(2, 0, 1),
		frame(2, 0, 2),
		frame(2, 47, 2, 47, 1, 0, 1),
		frame(3, 24, 3, 24, 2),
		frame(5, 24, 2, 25, 5, 26, 4),
		frame(19, 24, 19),
		frame(20, 24, 20, 24, 19),
		frame(21, 24, 20, 24, 1),
		frame(95, 0, 20, 47, 1),
		frame(96, 0, 20, 47, 1, 0, 7),
		frame(96, 24, 1),
		likeHammers(96, 24, 24, 0, 20),
		likeHammers(96, 24, 0, 2, 1),
		likeHammers(96, 23, 47, -2, 4),
		likeHammers(2, 24, 10, 1, 2),
		likeHammers(40, 24, 30, 0, 1),
	}
	random := rand.New(rand.NewSource(3))
	for range 12 {
		list = append(list, randomFrame(random))
	}
	return list
}

func invalidFrames() []impl.Frame {
	return []impl.Frame{
		{},
		{Steps: 8},
		{Steps: 8, Hammers: []impl.Hammer{}},
		frame(1, 24, 1),
		frame(0, 24, 1),
		frame(-1, 24, 1),
		frame(-8, 24, 1),
		frame(97, 24, 1),
		frame(256, 24, 1),
		frame(256+8, 24, 1),
		frame(math.MaxInt16, 24, 1),
		frame(math.MinInt16, 24, 1),
		frame(8, -1, 1),
		frame(8, 48, 1),
		frame(8, math.MinInt8, 1),
		frame(8, math.MaxInt8, 1),
		frame(8, 24, 0),
		frame(8, 24, -1),
		frame(8, 24, 9),
		frame(2, 24, 3),
		frame(19, 24, 20),
		frame(20, 24, 21),
		frame(96, 24, 21),
		frame(96, 24, 96),
		frame(96, 24, math.MinInt8),
		frame(96, 24, math.MaxInt8),
		frame(8, 24, 3, 48, 3),
		frame(8, 24, 3, 28, 0),
		frame(8, 24, 3, 28, 9, 24, 3),
		frame(97, -1, 21),
		likeHammers(96, 25, 0, 1, 1),
		likeHammers(8, 25, 24, 0, 3),
		likeHammers(8, 32, 0, 1, 1),
		likeHammers(8, 256+3, 24, 0, 3),
	}
}

// allTracks has the bits of all tracks of a frame.
func allTracks(f impl.Frame) uint32 { return uint32(1)<<len(f.Hammers) - 1 }

func fullDrum(f impl.Frame) impl.Drum {
	var d impl.Drum
	for step := range f.Steps {
		d[step] = allTracks(f)
	}
	return d
}

// spacedDrum has pins that come some steps later, or sooner, than the hammers of their tracks are ready.
func spacedDrum(f impl.Frame, from, later int) impl.Drum {
	var d impl.Drum
	for track, h := range f.Hammers {
		for step := from; step < int(f.Steps); step += max(1, int(h.Ready)+later) {
			d[step] |= 1 << track
		}
	}
	return d
}

func randomDrum(random *rand.Rand, f impl.Frame, one int) impl.Drum {
	var d impl.Drum
	for step := range f.Steps {
		for track := range f.Hammers {
			if random.Intn(one) == 0 {
				d[step] |= 1 << track
			}
		}
	}
	return d
}

// drumsFor are valid drums for a frame.
func drumsFor(f impl.Frame) []impl.Drum {
	last, top := f.Steps-1, uint32(1)<<(len(f.Hammers)-1)
	list := []impl.Drum{{}, {0: 1}, {0: top}, {1: top}, fullDrum(f), spacedDrum(f, 0, 0), spacedDrum(f, 1, 0), spacedDrum(f, 0, -1), spacedDrum(f, 0, 1)}
	one, ends, two := impl.Drum{}, impl.Drum{0: top}, impl.Drum{1: 1}
	one[last], ends[last], two[last] = 1, top, 1
	list = append(list, one, ends, two)
	random := rand.New(rand.NewSource(int64(f.Steps)))
	for i := range 6 {
		list = append(list, randomDrum(random, f, 2+i*i))
	}
	return list
}

// invalidDrumsFor are drums with pins for which a frame has no place.
func invalidDrumsFor(f impl.Frame) []impl.Drum {
	var list []impl.Drum
	for _, track := range []int{len(f.Hammers), 24, 31} {
		for _, step := range []int{0, int(f.Steps) / 2, int(f.Steps) - 1} {
			bad, full := impl.Drum{}, fullDrum(f)
			bad[step] |= 1 << track
			full[step] |= 1 << track
			list = append(list, bad, full)
		}
	}
	for _, step := range []int{int(f.Steps), int(f.Steps) + 1, 95} {
		if step < int(f.Steps) || step > 95 {
			continue
		}
		for _, bits := range []uint32{1, 1 << (len(f.Hammers) - 1), 1 << len(f.Hammers), math.MaxUint32} {
			bad, full := impl.Drum{}, fullDrum(f)
			bad[step], full[step] = bits, bits
			list = append(list, bad, full)
		}
	}
	return append(list, impl.Drum{0: math.MaxUint32})
}

// numbersFor are steps, tracks and pitches of a frame, those beside them, and numbers that are far away.
func numbersFor(f impl.Frame) []int64 {
	list := slices.Clone(drumNumbers)
	list = append(list, int64(f.Steps)-1, int64(f.Steps), int64(len(f.Hammers))-1, int64(len(f.Hammers)))
	for _, h := range f.Hammers {
		list = append(list, int64(h.Pitch))
	}
	slices.Sort(list)
	return slices.Compact(list)
}
