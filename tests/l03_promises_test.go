package tests

import (
	"fmt"
	"math"
	"math/rand"
	"slices"
	"strings"
	"testing"

	"loop.example/g01311/impl"
)

// withSpareRoom returns a list with spare capacity behind it, and all of its memory.
func withSpareRoom[T any](list []T, filler T) ([]T, []T) {
	whole := append(slices.Clone(list), slices.Repeat([]T{filler}, 9)...)
	return whole[:len(list)], whole
}

// spareArgs returns arguments with spare capacity behind each slice, and a function that shows all of their memory.
func spareArgs(a pinArgs) (pinArgs, func() string) {
	var hammers []impl.Hammer
	var tune impl.Tune
	var ats []int64
	var out, in [][2]int64
	a.f, hammers = spareFrame(a.f)
	a.t, tune = withSpare(a.t)
	a.ats, ats = withSpareRoom(a.ats, -9)
	a.out, out = withSpareRoom(a.out, [2]int64{-9, -9})
	a.in, in = withSpareRoom(a.in, [2]int64{-8, -8})
	return a, func() string { return fmt.Sprint(hammers, tune, ats, out, in) }
}

// bareArgs returns arguments without spare capacity, and in other memory.
func bareArgs(a pinArgs) pinArgs {
	a.f.Hammers = slices.Clip(slices.Clone(a.f.Hammers))
	a.t = slices.Clip(slices.Clone(a.t))
	a.ats = slices.Clip(slices.Clone(a.ats))
	a.out, a.in = slices.Clip(slices.Clone(a.out)), slices.Clip(slices.Clone(a.in))
	return a
}

// pinArgsForPurity are random arguments, and some for which all functions have something to tell.
func pinArgsForPurity() []pinArgs {
	var list []pinArgs
	random := rand.New(rand.NewSource(41))
	for range 300 {
		a := randomArgs(random)
		a.n += int64(random.Intn(40))
		list = append(list, a)
	}
	for _, f := range append(validFrames()[:12], invalidFrames()...) {
		list = append(list, pinArgs{f: f, t: notes(0, 24, 1, 24), d: impl.Drum{0: 1}, n: 1, steps: 8, ready: 3, ats: []int64{0, 1}, out: [][2]int64{{0, 0}}, in: [][2]int64{{1, 0}, {1, 1}}})
	}
	return list
}

func TestP1PinningPure(t *testing.T) {
	for _, a := range pinArgsForPurity() {
		spare, shown := spareArgs(a)
		bare, before := bareArgs(a), shown()
		for _, c := range pinCalls() {
			first := c.run(spare)
			wantEqual(t, c.run(spare), first, c.name, "twice", a)
			wantEqual(t, c.run(bare), first, c.name, "with no spare capacity", a)
			wantEqual(t, shown(), before, c.name, "left its arguments", a)
		}
	}
}

func TestP1PinningNilOrEmpty(t *testing.T) {
	f := mustReadFrame(t, pairFrame)
	none := pinArgs{f: f, n: 1, steps: 8, ready: 3}
	empty := none
	empty.t, empty.ats = impl.Tune{}, make([]int64, 0, 5)
	empty.out, empty.in = [][2]int64{}, make([][2]int64, 0, 5)
	for _, c := range pinCalls() {
		wantEqual(t, c.run(empty), c.run(none), c.name, "of nil and empty")
	}
}

// pinLists has each function of chapter 3 that returns a slice.
func pinLists(a pinArgs) []listOf {
	d, _, _ := impl.PinTune(a.f, a.t, impl.MaxTries)
	tracks, _ := impl.TracksOf(a.f, a.t, d)
	made, _ := impl.FrameFor(int64(a.f.Steps), 2, a.t)
	spare, _ := impl.SpareTracks(a.f, a.d)
	needless, _ := impl.NeedlessTracks(a.f, a.t)
	out, in, _ := impl.MovesBetween(a.f, a.d, a.e)
	filler := impl.Hammer{Pitch: 77, Ready: 77}
	list := []listOf{
		listOfSlice(tracks, 77),
		listOfSlice(made.Hammers, filler),
		listOfSlice(spare, 77),
		listOfSlice(needless, 77),
		listOfSlice(out, [2]int64{77, 77}),
		listOfSlice(in, [2]int64{77, 77}),
	}
	for _, track := range []int64{0, 1, int64(len(a.f.Hammers)) - 1} {
		less, _, _ := impl.WithoutTrack(a.f, impl.Drum{}, track)
		list = append(list, listOfSlice(less.Hammers, filler))
	}
	return list
}

func TestP1PinningSharesNoMemory(t *testing.T) {
	for _, a := range pinArgsForPurity() {
		spare, shown := spareArgs(a)
		checkLists(t, func() []listOf { return pinLists(spare) }, shown)
	}
}

// checkCode asks for an error with zero values beside it.
func checkCode(t *testing.T, c pinCall, a pinArgs, want string) {
	t.Helper()
	got := c.run(a)
	if zeros := withoutZeros(got); zeros != want {
		t.Errorf("%s: %s: got %s, want %s and zero values", c.name, a, got, want)
	}
}

func TestP1PinningInvalidFirst(t *testing.T) {
	far := [][2]int64{{math.MinInt64, math.MaxInt64}}
	for _, n := range []int64{0, -1, 24, impl.MaxTries + 1, math.MinInt64, math.MaxInt64} {
		for _, c := range pinCalls() {
			for _, f := range invalidFrames() {
				a := pinArgs{f: f, t: notes(199, 24), d: impl.Drum{0: 1}, n: n, out: far, in: far}
				if !strings.Contains("HammersNeeded FrameFor", c.name) {
					checkCode(t, c, a, "invalid")
				}
			}
			for _, u := range invalidTunes() {
				a := pinArgs{f: frame(8, 24, 3), t: u, n: n, steps: n, ready: n}
				if strings.Contains("PinTune PinGreedily FirstUnpinned CheckPinning TracksOf CrowdedAt FrameFor PinLike NeedlessTracks", c.name) {
					checkCode(t, c, a, "invalid")
				}
			}
			for _, f := range validFrames()[:12] {
				for _, bad := range invalidDrumsFor(f) {
					a := pinArgs{f: f, t: notes(199, 24), d: bad, e: bad, n: n, out: far, in: far}
					if strings.Contains("CheckPinning TracksOf PinLike SpareTracks WithoutTrack MovesBetween ApplyMoves", c.name) {
						checkCode(t, c, a, "invalid")
					}
					if a.d = (impl.Drum{}); c.name == "MovesBetween" {
						checkCode(t, c, a, "invalid")
					}
				}
			}
		}
	}
}

// TestP1PinningRangeNext asks for ErrRange where an error that comes behind it could be told.
func TestP1PinningRangeNext(t *testing.T) {
	f := frame(8, 24, 3)
	late := notes(0, 24, 1, 24, 7, 30, 8, 24)
	for _, d := range []impl.Drum{{}, fullDrum(f)} {
		for _, n := range []int64{0, 1, impl.MaxTries} {
			for _, c := range pinCalls() {
				a := pinArgs{f: f, t: late, d: d, n: n, steps: 8, ready: 3}
				if strings.Contains("PinTune PinGreedily FirstUnpinned CheckPinning TracksOf CrowdedAt FrameFor PinLike NeedlessTracks", c.name) {
					checkCode(t, c, a, "range")
				}
			}
		}
		for _, n := range []int64{-1, 20001, math.MinInt64, math.MaxInt64} {
			for _, c := range pinCalls() {
				a := pinArgs{f: f, t: notes(0, 24, 1, 24), d: d, n: n}
				if strings.Contains("PinTune PinLike WithoutTrack", c.name) {
					checkCode(t, c, a, "range")
				}
			}
		}
	}
}

func TestP1PinningGreat(t *testing.T) {
	const size = 1000000
	great := impl.Frame{Steps: 8, Hammers: slices.Repeat([]impl.Hammer{{Pitch: 24, Ready: 3}}, size)}
	tune := impl.Tune(slices.Repeat([]impl.Note{{At: 1, Pitch: 24}}, size))
	f, places := frame(8, 24, 3, 24, 3), slices.Repeat([][2]int64{{1, 1}}, size)
	for _, c := range pinCalls() {
		if !strings.Contains("HammersNeeded FrameFor", c.name) {
			checkCode(t, c, pinArgs{f: great}, "invalid")
		}
		if strings.Contains("PinTune PinGreedily FirstUnpinned CheckPinning TracksOf CrowdedAt FrameFor PinLike NeedlessTracks", c.name) {
			checkCode(t, c, pinArgs{f: f, t: tune}, "invalid")
		}
	}
	moved, code := impl.ApplyMoves(f, impl.Drum{}, nil, places)
	wantDrum(t, moved, code, "[state]", "a pin put in again and again")
	moved, code = impl.ApplyMoves(f, pinned(1, 1), places, nil)
	wantDrum(t, moved, code, "[state]", "a pin taken out again and again")
	moved, code = impl.ApplyMoves(f, pinned(1, 1), places, append(places, [2]int64{8, 0}))
	wantDrum(t, moved, code, "[range]", "a step that does not exist behind all others")
	for _, ats := range [][]int64{numbersBy(size, 0, 1), numbersBy(size, 0, 0), numbersBy(size, 95, -1)} {
		count, code := impl.HammersNeeded(96, 20, ats)
		wantEqual(t, answers(code, count), "range; 0", "a great list of steps")
	}
}

// TestP1PinningMost asks for what takes the longest time.
func TestP1PinningMost(t *testing.T) {
	most := likeHammers(96, 24, 24, 0, 20)
	list, code := impl.NeedlessTracks(most, row(90, 0, 24, 1, 0))
	wantEqual(t, answers(code, list), "ok; []", "a tune that is not found for any frame")
	tune := impl.Tune{}
	for at := range 14 {
		for pitch := range 8 {
			tune = append(tune, impl.Note{At: int16(at * 3), Pitch: int8(pitch)})
		}
	}
	for steps := int64(40); steps <= 96; steps++ {
		f, code := impl.FrameFor(steps, 9, tune)
		count, one := impl.HammersNeeded(steps, 9, numbersBy(14, 0, 3))
		wantEqual(t, one, impl.OK, "hammers needed", steps)
		wantEqual(t, code == impl.OK, count <= 3, "a frame for eight bells", steps)
		wantEqual(t, code == impl.OK || code == impl.ErrLimit, true, "a frame for eight bells", steps)
		wantEqual(t, int64(len(f.Hammers)), map[bool]int64{true: 8 * count}[count <= 3], "hammers for eight bells", steps)
	}
}

// checkPlays asks that a tune is pinned on a drum, which then plays it.
func checkPlays(t *testing.T, f impl.Frame, u impl.Tune, d impl.Drum, name string) {
	t.Helper()
	played, one := impl.TuneOf(f, d)
	is, two := impl.CheckPinning(f, u, d)
	can, three := impl.IsPlayable(f, d)
	pins, four := impl.CountPins(f, d)
	got := fmt.Sprint(raw(played), one, is, two, can, three, pins, four)
	wantEqual(t, got, fmt.Sprint(raw(u), 0, true, 0, true, 0, len(u), 0), name, "plays", rawFrame(f), raw(u), rawDrum(d))
	tracks, code := impl.TracksOf(f, u, d)
	wantEqual(t, fmt.Sprint(len(tracks), code), fmt.Sprint(len(u), 0), name, "tracks", rawFrame(f), raw(u))
	for i, track := range tracks {
		has, code := impl.HasPin(f, d, int64(u[i].At), track)
		wantEqual(t, fmt.Sprint(has, code, f.Hammers[track].Pitch), fmt.Sprint(true, 0, u[i].Pitch), name, "track of a note", rawFrame(f), raw(u), i)
	}
}

// pinSubjects are frames with tunes: those that the document names as edges, and random ones.
func pinSubjects(t *testing.T, count int) []pinArgs {
	var list []pinArgs
	for _, texts := range [][2]string{
		{pairFrame, pairTune}, {pairFrame, ""}, {pairFrame, "0:c2 1:c2 2:c2"}, {pairFrame, "7:c2"}, {pairFrame, "0:d2"}, {backFrame, backTune},
		{"8 c2/3 c2/3", "0:c2 6:c2 7:e2"}, {"8 c2/3 c2/3", "0:c2 6:c2"}, {"8 c2/3 c2/3", "0:c2 6:c2 7:c2"}, {"8 c2/3", "0:c2 5:c2"}, {"8 c2/3", "0:c2 6:c2"},
		{"8 c2/8 c2/2 c2/4", "0:c2 1:c2 2:c2 5:c2"}, {"8 c2/2 c2/4 c2/8", "0:c2 1:c2 2:c2 5:c2"}, {"2 c2/2 c2/2", "0:c2 1:c2"}, {"96 c2/20 c2/20", "0:c2 77:c2 95:c2"},
	} {
		list = append(list, pinArgs{f: mustReadFrame(t, texts[0]), t: mustReadTune(t, texts[1])})
	}
	random := rand.New(rand.NewSource(42))
	for range count {
		a := pinArgs{f: crewFrame(random)}
		a.t, a.d = stepTune(random, a.f, 2+random.Intn(6)), randomDrum(random, a.f, 2+random.Intn(3))
		list = append(list, a)
	}
	return list
}

func TestP6PinnedIsPlayed(t *testing.T) {
	found := map[string]int{}
	for _, a := range pinSubjects(t, 3000) {
		d, tries, code := impl.PinTune(a.f, a.t, impl.MaxTries)
		found["pinned "+impl.CodeName(code)]++
		if code == impl.OK {
			checkPlays(t, a.f, a.t, d, "pinned")
			wantEqual(t, tries >= int64(len(a.t)), true, "a try for each note", rawFrame(a.f), raw(a.t))
		}
		e, code := impl.PinGreedily(a.f, a.t)
		found["greedy "+impl.CodeName(code)]++
		if code == impl.OK {
			checkPlays(t, a.f, a.t, e, "greedily pinned")
			wantEqual(t, answers(code, e, tries), answers(code, d, len(a.t)), "greedily pinned as without going back", rawFrame(a.f), raw(a.t))
		}
		g, _, _, code := impl.PinLike(a.f, a.d, a.t, impl.MaxTries)
		found["like "+impl.CodeName(code)]++
		if code == impl.OK {
			checkPlays(t, a.f, a.t, g, "pinned like another drum")
		}
	}
	for _, what := range []string{"pinned ok", "pinned notfound", "greedy ok", "greedy notfound", "like ok", "like notfound"} {
		if found[what] < 200 {
			t.Errorf("the tests look at too few cases: %v", found)
		}
	}
}

// TestP6OtherDrumsAreNot asks that no tune is pinned on a drum that is another one in a single pin.
func TestP6OtherDrumsAreNot(t *testing.T) {
	for _, a := range pinSubjects(t, 300) {
		d, _, code := impl.PinTune(a.f, a.t, impl.MaxTries)
		if code != impl.OK {
			continue
		}
		for step := range a.f.Steps {
			for track := range a.f.Hammers {
				other := d
				other[step] ^= 1 << track
				is, one := impl.CheckPinning(a.f, a.t, other)
				tracks, two := impl.TracksOf(a.f, a.t, other)
				wantEqual(t, fmt.Sprint(is, one, tracks, two), "false 0 [] 8", "a pin more, or less", rawFrame(a.f), raw(a.t), rawDrum(other))
			}
		}
	}
}

// TestCrowdedIsNotFound asks that no drum is found where notes are crowded.
func TestCrowdedIsNotFound(t *testing.T) {
	found := 0
	for _, a := range pinSubjects(t, 3000) {
		step, pitch, count, code := impl.CrowdedAt(a.f, a.t)
		if code != impl.OK {
			wantEqual(t, answers(code, step, pitch, count), "notfound; 0; 0; 0", "not crowded")
			continue
		}
		found++
		_, _, one := impl.PinTune(a.f, a.t, impl.MaxTries)
		_, two := impl.PinGreedily(a.f, a.t)
		_, _, _, three := impl.PinLike(a.f, a.d, a.t, impl.MaxTries)
		wantEqual(t, fmt.Sprint(one, two, three), "6 6 6", "crowded", rawFrame(a.f), raw(a.t))
		hammers, code := impl.HammersFor(a.f, pitch)
		wantEqual(t, fmt.Sprint(count > hammers, code), "true 0", "more notes than hammers", rawFrame(a.f), raw(a.t))
	}
	if found < 300 {
		t.Errorf("the tests look at too few crowded tunes: %d", found)
	}
}

// tuneAt has a note of one pitch at each of some steps.
func tuneAt(ats []int64, pitch int8) impl.Tune {
	var u impl.Tune
	for _, at := range ats {
		u = append(u, impl.Note{At: int16(at), Pitch: pitch})
	}
	return u
}

// checkFewest asks that so many hammers as are needed are enough, and one less is not.
func checkFewest(t *testing.T, steps, ready int64, ats []int64) {
	t.Helper()
	count, code := impl.HammersNeeded(steps, ready, ats)
	wantEqual(t, code, impl.OK, "needed", steps, ready, ats)
	u := tuneAt(ats, 24)
	for _, hammers := range []int64{count, count - 1} {
		if hammers < 1 {
			continue
		}
		f := likeHammers(int(steps), int(hammers), 24, 0, int(ready))
		d, _, code := impl.PinTune(f, u, impl.MaxTries)
		want := map[bool]int64{true: impl.OK, false: impl.ErrNotFound}[hammers == count]
		wantEqual(t, code, want, "pinned with", hammers, "hammers", steps, ready, ats)
		if code == impl.OK {
			checkPlays(t, f, u, d, "the fewest hammers")
		}
	}
	wantEqual(t, count > 0, len(ats) > 0, "a hammer for a pin", steps, ready, ats)
}

func TestP7FewerAreNotEnough(t *testing.T) {
	for steps := int64(2); steps <= 8; steps++ {
		for ready := int64(1); ready <= steps; ready++ {
			for bits := range 1 << steps {
				var ats []int64
				for at := range steps {
					if bits>>at&1 == 1 {
						ats = append(ats, at)
					}
				}
				// With more pins, a search that is one hammer short may need more tries than MaxTries.
				if len(ats) <= 7 {
					checkFewest(t, steps, ready, ats)
				}
			}
		}
	}
	random := rand.New(rand.NewSource(43))
	for range 1500 {
		steps := 9 + random.Int63n(88)
		var ats []int64
		for _, at := range random.Perm(int(steps))[:random.Intn(8)] {
			ats = append(ats, int64(at))
		}
		slices.Sort(ats)
		checkFewest(t, steps, 1+random.Int63n(min(steps, 20)), ats)
	}
}

// TestP7GreatNumbers has as many pins as there can be, in circles for which one hammer less can be seen not to be enough.
func TestP7GreatNumbers(t *testing.T) {
	cases := []struct{ steps, ready, count, from, by, want int64 }{
		{96, 1, 14, 0, 1, 1},
		{96, 1, 14, 82, 1, 1},
		{14, 2, 14, 0, 1, 2},
		{14, 7, 14, 0, 1, 7},
		{14, 14, 14, 0, 1, 14},
		{13, 2, 13, 0, 1, 3},
		{13, 6, 13, 0, 1, 7},
		{13, 4, 13, 0, 1, 5},
		{96, 20, 14, 0, 1, 14},
		{96, 20, 14, 0, 7, 4},
		{91, 20, 13, 0, 7, 4},
		{20, 20, 14, 6, 1, 14},
		{28, 20, 14, 0, 2, 14},
		{28, 5, 14, 0, 2, 4},
		{30, 5, 14, 0, 2, 3},
	}
	for _, c := range cases {
		got, code := impl.HammersNeeded(c.steps, c.ready, numbersBy(int(c.count), c.from, c.by))
		wantEqual(t, answers(code, got), answers(impl.OK, c.want), "needed of", c)
	}
}

// TestP7Frames asks that FrameFor has the hammers that each pitch needs, on which the tune can be pinned, and none of which can be left out.
func TestP7Frames(t *testing.T) {
	found := 0
	for _, a := range pinSubjects(t, 1500) {
		for ready := int64(1); ready <= min(4, int64(a.f.Steps)); ready++ {
			f, code := impl.FrameFor(int64(a.f.Steps), ready, a.t)
			if code != impl.OK {
				wantEqual(t, code, impl.ErrNotFound, "no frame", raw(a.t))
				continue
			}
			d, _, code := impl.PinTune(f, a.t, impl.MaxTries)
			if code == impl.ErrBudget {
				continue
			}
			found++
			wantEqual(t, code, impl.OK, "pinned on its frame", rawFrame(f), raw(a.t))
			checkPlays(t, f, a.t, d, "on its frame")
			needless, code := impl.NeedlessTracks(f, a.t)
			wantEqual(t, answers(code, needless), "ok; []", "none of its hammers is needless", rawFrame(f), raw(a.t))
			spare, code := impl.SpareTracks(f, d)
			wantEqual(t, answers(code, spare), "ok; []", "none of its hammers is spare", rawFrame(f), raw(a.t))
		}
	}
	if found < 1000 {
		t.Errorf("the tests look at too few frames: %d", found)
	}
}

// eachPinning calls a function with all drums on which a tune is pinned, found by going through all tracks of all notes.
func eachPinning(f impl.Frame, u impl.Tune, call func(d impl.Drum)) {
	var goOn func(d impl.Drum, index int)
	goOn = func(d impl.Drum, index int) {
		if index == len(u) {
			if _, is := modelOf(f, d).pinnedTracks(u); is {
				call(d)
			}
			return
		}
		for track, h := range f.Hammers {
			if h.Pitch == u[index].Pitch {
				next := d
				next[u[index].At] |= 1 << track
				goOn(next, index+1)
			}
		}
	}
	goOn(impl.Drum{}, 0)
}

func TestP8FewestNewPins(t *testing.T) {
	found, better := 0, 0
	for _, a := range pinSubjects(t, 1500) {
		if len(a.t) > 7 {
			continue
		}
		d, fresh, _, code := impl.PinLike(a.f, a.d, a.t, impl.MaxTries)
		fewest, any := int64(len(a.t))+1, false
		eachPinning(a.f, a.t, func(other impl.Drum) {
			news, _, two := impl.PinsToMove(a.f, a.d, other)
			wantEqual(t, two, impl.OK, "pins to move")
			fewest, any = min(fewest, news), true
		})
		wantEqual(t, code, map[bool]int64{true: impl.OK, false: impl.ErrNotFound}[any], "like", rawFrame(a.f), raw(a.t))
		if !any {
			continue
		}
		news, _, code := impl.PinsToMove(a.f, a.d, d)
		wantEqual(t, fmt.Sprint(fresh, news, code), fmt.Sprint(fewest, fewest, 0), "fewest new pins", rawFrame(a.f), raw(a.t), rawDrum(a.d))
		checkPlays(t, a.f, a.t, d, "like")
		found++
		if first, _, _ := impl.PinTune(a.f, a.t, impl.MaxTries); first != d {
			better++
		}
	}
	if found < 500 || better < 100 {
		t.Errorf("the tests look at too few cases: %d, %d", found, better)
	}
}

// TestP8SamePins asks that a drum on which the tune is pinned already is kept, and that one with a pin elsewhere keeps the others.
func TestP8SamePins(t *testing.T) {
	for _, a := range pinSubjects(t, 400) {
		if len(a.t) > 6 {
			continue
		}
		eachPinning(a.f, a.t, func(old impl.Drum) {
			d, fresh, _, code := impl.PinLike(a.f, old, a.t, impl.MaxTries)
			wantEqual(t, answers(code, d, fresh), answers(impl.OK, old, 0), "kept", rawFrame(a.f), raw(a.t))
			less := old
			if len(a.t) > 0 {
				less[a.t[0].At] = 0
			}
			_, fresh, _, code = impl.PinLike(a.f, less, a.t, impl.MaxTries)
			lost, _, _ := impl.PinsToMove(a.f, less, old)
			wantEqual(t, fmt.Sprint(code, fresh <= lost), "0 true", "no more new pins than have been lost", rawFrame(a.f), raw(a.t))
		})
	}
}

// TestMovesLeadOver asks that moves lead from one drum to the other, and back.
func TestMovesLeadOver(t *testing.T) {
	for _, f := range validFrames() {
		drums := drumsFor(f)
		for i, a := range drums {
			b := drums[(i*7+3)%len(drums)]
			out, in, one := impl.MovesBetween(f, a, b)
			there, two := impl.ApplyMoves(f, a, out, in)
			back, three := impl.ApplyMoves(f, b, in, out)
			wantEqual(t, there, b, "moves lead to the other drum", rawFrame(f), rawDrum(a))
			wantEqual(t, back, a, "moves lead back", rawFrame(f), rawDrum(a))
			news, gone, four := impl.PinsToMove(f, a, b)
			got := fmt.Sprint(one, two, three, four, len(out), len(in))
			wantEqual(t, got, fmt.Sprint(0, 0, 0, 0, gone, news), "as many moves as pins", rawFrame(f), rawDrum(a))
		}
	}
}

// TestWithoutTrackPlaysAlike asks that a drum without a spare track plays as before.
func TestWithoutTrackPlaysAlike(t *testing.T) {
	for _, f := range validFrames() {
		for _, d := range drumsFor(f) {
			spare, code := impl.SpareTracks(f, d)
			wantEqual(t, code, impl.OK, "spare tracks")
			for track := range int64(len(f.Hammers)) {
				less, drum, code := impl.WithoutTrack(f, d, track)
				can := slices.Contains(spare, track) && len(f.Hammers) > 1
				wantEqual(t, code, map[bool]int64{true: impl.OK, false: impl.ErrState}[can], "without a track", rawFrame(f), rawDrum(d), track)
				if can {
					wantEqual(t, answers(tuneCode(less, drum)), answers(tuneCode(f, d)), "the same tune", track)
					one, _ := impl.ClashesOf(f, d)
					two, _ := impl.ClashesOf(less, drum)
					wantEqual(t, len(one), len(two), "as many clashes", track)
				}
			}
		}
	}
}
