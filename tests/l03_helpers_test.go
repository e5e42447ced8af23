package tests

import (
	"math"
	"math/rand"
	"slices"

	"loop.example/g01311/impl"
)

// pinArgs are arguments for the functions of chapter 3, each of which takes some of them.
type pinArgs struct {
	f            impl.Frame
	t            impl.Tune
	d, e         impl.Drum
	n            int64
	steps, ready int64
	ats          []int64
	out, in      [][2]int64
}

// stepTune has notes at steps of a frame: about one of so many of those with its pitches, and a few with others.
func stepTune(random *rand.Rand, f impl.Frame, one int) impl.Tune {
	var list []impl.Note
	for step := range f.Steps {
		for _, h := range f.Hammers {
			if random.Intn(one) == 0 && len(list) < 12 {
				list = append(list, impl.Note{At: step, Pitch: h.Pitch})
			}
		}
		if random.Intn(60) == 0 {
			list = append(list, impl.Note{At: step, Pitch: 19})
		}
	}
	t, _ := impl.MakeTune(list)
	return t
}

// crewFrame has a few hammers of one or two pitches, with several times.
func crewFrame(random *rand.Rand) impl.Frame {
	steps := 2 + random.Intn(10)
	f := impl.Frame{Steps: int16(steps)}
	most := 1 + random.Intn(steps)
	for range 1 + random.Intn(4) {
		f.Hammers = append(f.Hammers, impl.Hammer{Pitch: int8(24 + random.Intn(2)), Ready: int8(1 + random.Intn(most))})
	}
	return f
}

// randomMoves are places of pins of a drum, or others, a few of which do not exist.
func randomMoves(random *rand.Rand, f impl.Frame, from impl.Drum) [][2]int64 {
	list := [][2]int64{}
	for p := range placesOf(from) {
		list = append(list, [2]int64{p.step, p.track})
	}
	slices.SortFunc(list, func(a, b [2]int64) int { return slices.Compare(a[:], b[:]) })
	random.Shuffle(len(list), func(i, j int) { list[i], list[j] = list[j], list[i] })
	list = list[:random.Intn(len(list)+1)]
	if random.Intn(4) == 0 {
		list = append(list, [2]int64{random.Int63n(int64(f.Steps)), random.Int63n(int64(len(f.Hammers)))})
	}
	if random.Intn(12) == 0 {
		list = append(list, [2]int64{random.Int63n(int64(f.Steps)) + 1, random.Int63n(int64(len(f.Hammers))) + 1})
	}
	return list
}

// randomArgs are mostly such that the functions have something to tell.
func randomArgs(random *rand.Rand) pinArgs {
	a := pinArgs{f: crewFrame(random)}
	a.t = stepTune(random, a.f, 1+random.Intn(12))
	a.d, a.e = randomDrum(random, a.f, 2+random.Intn(8)), randomDrum(random, a.f, 2+random.Intn(3))
	a.n = int64(random.Intn(5))
	a.steps = 2 + random.Int63n(15)
	a.ready = 1 + random.Int63n(min(a.steps, impl.MaxReady))
	for at := range a.steps {
		if random.Intn(2) == 0 {
			a.ats = append(a.ats, at)
		}
	}
	a.out, a.in = randomMoves(random, a.f, a.d), randomMoves(random, a.f, missingPins(a.f, a.d))
	return a
}

// missingPins is the drum with the pins that another one has not.
func missingPins(f impl.Frame, d impl.Drum) impl.Drum {
	full := fullDrum(f)
	for step := range full {
		full[step] &^= d[step]
	}
	return full
}

// budgetNumbers are limits of budgets, tracks, steps and ready, the numbers beside them, and numbers that are others when bits are lost.
var budgetNumbers = []int64{
	math.MinInt64, math.MinInt64 + 1, -1 << 32, -1 << 16, -256, -2, -1,
	0, 1, 2, 3, 7, 8, 9, 13, 14, 15, 19, 20, 21, 23, 24, 25, 95, 96, 97, 256, 1000, 19999, 20000, 20001,
	1 << 16, 1<<16 + 8, 1 << 32, 1<<32 + 1, math.MaxInt64 - 1, math.MaxInt64,
}
