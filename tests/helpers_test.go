package tests

import (
	"fmt"
	"math"
	"math/rand"
	"strings"
	"testing"

	"loop.example/g01311/impl"
)

// farNumbers are limits, the numbers beside them, and numbers that are others when bits are lost.
var farNumbers = []int64{
	math.MinInt64, math.MinInt64 + 1, math.MinInt64 + 100, -1 << 32, -1 << 16, -256,
	-201, -200, -199, -101, -49, -48, -47, -12, -3, -2, -1,
	0, 1, 2, 3, 7, 8, 9, 12, 24, 28, 46, 47, 48, 49, 99, 100, 101, 119, 120, 121, 198, 199, 200, 201,
	256, 257, 1 << 16, 1<<16 + 1, 1 << 32, 1<<32 + 1, math.MaxInt64 - 200, math.MaxInt64 - 1, math.MaxInt64,
}

// wantEqual makes a name of its last arguments only where it is needed, for most checks need none.
func wantEqual[T comparable](t *testing.T, got, want T, name ...any) {
	t.Helper()
	if got != want {
		t.Errorf("%s: got %v, want %v", strings.TrimSuffix(fmt.Sprintln(name...), "\n"), got, want)
	}
}

// raw shows a tune by its numbers, so that it does not depend on the names of pitches.
func raw(t impl.Tune) string {
	var parts []string
	for _, n := range t {
		parts = append(parts, fmt.Sprintf("%d/%d", n.At, n.Pitch))
	}
	return strings.Join(parts, " ")
}

// notes makes a list of pairs of At and Pitch, whether it is a valid tune or not.
func notes(numbers ...int) impl.Tune {
	t := impl.Tune{}
	for i := 0; i < len(numbers); i += 2 {
		t = append(t, impl.Note{At: int16(numbers[i]), Pitch: int8(numbers[i+1])})
	}
	return t
}

// row makes count notes, each one some steps and half steps behind the one before.
func row(count, at, pitch, steps, by int) impl.Tune {
	t := impl.Tune{}
	for i := range count {
		t = append(t, impl.Note{At: int16(at + i*steps), Pitch: int8(pitch + i*by)})
	}
	return t
}

// block makes count notes that fill step after step with all the pitches.
func block(count, at int) impl.Tune {
	t := impl.Tune{}
	for i := range count {
		t = append(t, impl.Note{At: int16(at + i/impl.MaxPitch), Pitch: int8(i % impl.MaxPitch)})
	}
	return t
}

func randomTune(random *rand.Rand, count, steps, pitches int) impl.Tune {
	at, pitch := random.Intn(impl.MaxAt-steps+1), random.Intn(impl.MaxPitch-pitches+1)
	t := impl.Tune{}
	for a := range steps {
		for p := range pitches {
			if len(t) < impl.MaxNotes && random.Intn(steps*pitches) < count {
				t = append(t, impl.Note{At: int16(at + a), Pitch: int8(pitch + p)})
			}
		}
	}
	return t
}

func validTunes() []impl.Tune {
	list := []impl.Tune{
		nil,
		{},
		notes(0, 0),
		notes(0, 47),
		notes(199, 0),
		notes(199, 47),
		notes(100, 24),
		notes(0, 0, 199, 47),
		notes(0, 47, 199, 0),
		notes(0, 24, 2, 28, 4, 31),
		notes(3, 24, 5, 28, 7, 31),
		notes(0, 24, 0, 28, 0, 31),
		notes(0, 5, 4, 5, 8, 5, 8, 7, 10, 7),
		notes(0, 9, 2, 3, 4, 9, 6, 3),
		notes(0, 1, 0, 2, 5, 1, 5, 2, 9, 7),
		notes(6, 10, 12, 20, 18, 30),
		row(48, 0, 0, 0, 1),
		row(48, 199, 0, 0, 1),
		row(48, 0, 47, 1, -1),
		row(120, 0, 24, 1, 0),
		row(120, 80, 47, 1, 0),
		row(60, 0, 3, 3, 0),
		row(100, 0, 0, 2, 0),
		block(119, 0),
		block(120, 0),
		block(120, 197),
	}
	random := rand.New(rand.NewSource(1))
	for i := range 24 {
		list = append(list, randomTune(random, 1+i/2, 4+i, 2+i%7))
	}
	return append(list, randomTune(random, 100, 200, 48), randomTune(random, 60, 60, 12))
}

func invalidTunes() []impl.Tune {
	return []impl.Tune{
		notes(1, 5, 1, 5),
		notes(1, 5, 1, 4),
		notes(2, 5, 1, 5),
		notes(2, 5, 1, 6),
		notes(0, 1, 5, 1, 5, 1),
		notes(0, 1, 5, 1, 4, 2, 6, 1),
		notes(-1, 5),
		notes(200, 5),
		notes(5, -1),
		notes(5, 48),
		notes(0, 5, 200, 5),
		notes(-1, 5, 0, 5),
		notes(0, -1, 0, 5),
		notes(0, 5, 0, 48),
		notes(math.MinInt16, 5),
		notes(math.MaxInt16, 5),
		notes(5, math.MinInt8),
		notes(5, math.MaxInt8),
		notes(math.MinInt16, math.MinInt8, math.MaxInt16, math.MaxInt8),
		row(121, 0, 24, 1, 0),
		block(121, 0),
		row(121, 0, 24, 0, 0),
	}
}

func allTunes() []impl.Tune { return append(validTunes(), invalidTunes()...) }

// bellSets are sets of bells, some with bits that no pitch has.
func bellSets() []uint64 {
	all := uint64(1)<<impl.MaxPitch - 1
	sets := []uint64{0, 1, 1 << 47, 1 << 48, 1 << 63, ^all, all, math.MaxUint64, all &^ 1, all &^ (1 << 47), 0x555555555555, 0xaaaaaaaaaaaa}
	sets = append(sets, 1<<24|1<<25|1<<28|1<<29|1<<32, 1<<24|1<<28|1<<31, 1<<23|1<<27|1<<30|1<<25|1<<29|1<<32)
	random := rand.New(rand.NewSource(2))
	for range 12 {
		sets = append(sets, random.Uint64()|random.Uint64())
	}
	return sets
}
