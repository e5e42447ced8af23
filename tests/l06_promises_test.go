package tests

import (
	"fmt"
	"math"
	"math/bits"
	"math/rand"
	"slices"
	"strings"
	"testing"

	"loop.example/g01311/impl"
)

// spareWear returns a wear with spare capacity behind its slices, and a function that shows all of their memory.
func spareWear(w impl.Wear) (impl.Wear, func() string) {
	var pins []impl.WornPin
	var strokes []int64
	w.Pins, pins = withSpareRoom(w.Pins, impl.WornPin{Step: -9, Track: -9, Turns: -9})
	w.Strokes, strokes = withSpareRoom(w.Strokes, -9)
	return w, func() string { return fmt.Sprint(pins, strokes) }
}

// spareWearArgs returns arguments with spare capacity behind each slice, and a function that shows all of their memory.
func spareWearArgs(a wearArgs) (wearArgs, func() string) {
	var hammers []impl.Hammer
	var list []impl.Act
	var choices []impl.Lives
	a.f, hammers = spareFrame(a.f)
	w, one := spareWear(a.w)
	x, two := spareWear(a.x)
	a.w, a.x = w, x
	a.acts, list = withSpareRoom(a.acts, impl.Act{Kind: -9, A: -9})
	a.choices, choices = withSpareRoom(a.choices, impl.Lives{Pin: -9, Hammer: -9})
	return a, func() string { return fmt.Sprint(hammers, one(), two(), list, choices) }
}

// bareWearArgs returns arguments without spare capacity, and in other memory.
func bareWearArgs(a wearArgs) wearArgs {
	a.f.Hammers = slices.Clip(slices.Clone(a.f.Hammers))
	for _, w := range []*impl.Wear{&a.w, &a.x} {
		w.Pins, w.Strokes = slices.Clip(slices.Clone(w.Pins)), slices.Clip(slices.Clone(w.Strokes))
	}
	a.acts, a.choices = slices.Clip(slices.Clone(a.acts)), slices.Clip(slices.Clone(a.choices))
	return a
}

// wearsForPurity are random arguments, and some that are not valid.
func wearsForPurity() []wearArgs {
	var list []wearArgs
	random := rand.New(rand.NewSource(121))
	for range 300 {
		list = append(list, randomWear(random))
	}
	eight := frame(8, 24, 3)
	for i, f := range append(chimeFrames()[:4], invalidFrames()...) {
		for j, w := range append(wearsFor(eight)[:5], invalidWearsFor(eight)...) {
			a := wearArgs{f: f, d: impl.Drum{0: 1}, w: w, x: w, v: exampleLives(), turns: int64(i % 3), step: int64(j % 2), toStep: 1, acts: acts("turn 1, pin 1 0, hammer 0"), choices: []impl.Lives{{Pin: 3, Hammer: 9}, {Pin: 9, Hammer: 3}}, text: "turn 1\npin 1 0\n"}
			a.act = a.acts[j%3]
			list = append(list, a)
		}
	}
	return list
}

func TestP1WearPure(t *testing.T) {
	for _, a := range wearsForPurity() {
		spare, shown := spareWearArgs(a)
		bare, before := bareWearArgs(a), shown()
		for _, c := range wearCalls() {
			first := c.run(spare)
			wantEqual(t, c.run(spare), first, c.name, "twice", a)
			wantEqual(t, c.run(bare), first, c.name, "with no spare capacity", a)
			wantEqual(t, shown(), before, c.name, "left its arguments", a)
		}
	}
}

func TestP1WearNilOrEmpty(t *testing.T) {
	for _, strokes := range [][]int64{nil, {0, 3}} {
		none := wearArgs{f: mustReadFrame(t, twoHammers), w: impl.Wear{Strokes: strokes}, v: exampleLives()}
		empty := none
		empty.w.Pins, empty.x = []impl.WornPin{}, impl.Wear{Pins: make([]impl.WornPin, 0, 5), Strokes: []int64{}}
		if strokes == nil {
			empty.w.Strokes = make([]int64, 0, 5)
		}
		empty.acts, empty.choices = make([]impl.Act, 0, 5), []impl.Lives{}
		for _, c := range wearCalls() {
			wantEqual(t, c.run(empty), c.run(none), c.name, "of nil and empty")
		}
	}
}

// listsOfWear are the slices of a wear.
func listsOfWear(w impl.Wear, _ int64) []listOf {
	return []listOf{listOfSlice(w.Pins, impl.WornPin{Step: 77, Track: 77, Turns: 77}), listOfSlice(w.Strokes, 77)}
}

// wearLists has each function of chapter 6 that returns slices, some of them where there is nothing to change.
func wearLists(a wearArgs) []listOf {
	pins, tracks, _ := impl.WornOut(a.f, a.w, a.v)
	all, every, _ := impl.WornOut(a.f, a.w, impl.Lives{Pin: 1, Hammer: 1})
	read, _ := impl.ReadActs(a.text)
	return slices.Concat(
		listsOfWear(impl.FreshWear(a.f, a.d)),
		listsOfWear(impl.TurnWear(a.f, a.w, a.turns)),
		listsOfWear(impl.TurnWear(a.f, a.w, 0)),
		listsOfWear(impl.NewHammer(a.f, a.w, a.track)),
		listsOfWear(impl.NewPin(a.f, a.w, a.step, a.track)),
		listsOfWear(impl.MovePin(a.f, a.w, a.step, a.track, a.toStep, a.toTrack)),
		listsOfWear(impl.DoWearAct(a.f, a.w, a.act)),
		listsOfWear(impl.DoWearActs(a.f, a.w, a.v, a.acts)),
		listsOfWear(impl.DoWearActs(a.f, a.w, a.v, nil)),
		[]listOf{
			listOfSlice(pins, impl.WornPin{Step: 77, Track: 77, Turns: 77}), listOfSlice(tracks, 77),
			listOfSlice(all, impl.WornPin{Step: 77, Track: 77, Turns: 77}), listOfSlice(every, 77),
			listOfSlice(read, impl.Act{Kind: 77, A: 77}),
		},
	)
}

func TestP1WearSharesNoMemory(t *testing.T) {
	for _, a := range wearsForPurity() {
		spare, shown := spareWearArgs(a)
		checkLists(t, func() []listOf { return wearLists(spare) }, shown)
	}
}

func TestP1WearSchedule(t *testing.T) {
	random := rand.New(rand.NewSource(122))
	var subjects []wearArgs
	for len(subjects) < 12 {
		a := randomWear(random)
		a.d = fullDrum(a.f)
		a.w = randomWorn(random, a.f, a.d, int(a.v.Pin)/3, int(a.v.Hammer)/3)
		subjects = append(subjects, a)
	}
	checkSchedule(t, func() string {
		var results []string
		for _, a := range subjects {
			for _, c := range wearCalls() {
				results = append(results, c.run(a))
			}
		}
		return strings.Join(results, "\n")
	})
}

// TestP1WearManyInOneTurn asks again and again for the first one of many things that are worn out in the same turn.
func TestP1WearManyInOneTurn(t *testing.T) {
	f := likeHammers(96, 24, 0, 2, 20)
	full, _ := impl.FreshWear(f, fullDrum(f))
	hammers, _ := impl.FreshWear(f, spacedDrum(f, 0, 0))
	for range 50 {
		turn, step, track, code := impl.FirstWorn(f, full, impl.Lives{Pin: 9, Hammer: 10 * 96})
		wantEqual(t, shown(t, code, turn, step, track), "10; 0; 0", "pins alone")
		turn, step, track, code = impl.FirstWorn(f, full, impl.Lives{Pin: 9, Hammer: 10*96 - 1})
		wantEqual(t, shown(t, code, turn, step, track), "10; 0; 0", "pins and hammers")
		turn, step, track, code = impl.FirstWorn(f, hammers, impl.Lives{Pin: 9, Hammer: 20})
		wantEqual(t, shown(t, code, turn, step, track), "5; -1; 0", "hammers alone")
	}
}

// checkWearCode asks for an error with zero values beside it.
func checkWearCode(t *testing.T, c wearCall, a wearArgs, want string) {
	t.Helper()
	got := c.run(a)
	if withoutZeros(got) != want {
		t.Errorf("%s: got %s, want %s and zero values", c.name, got, want)
	}
}

const (
	// Functions with a wear alone, with lives as well, and with choices of lives.
	wearingCalls = "DrumOfWear TurnWear NewHammer NewPin MovePin DoWearAct"
	livingCalls  = "TurnsLeft FirstWorn WornOut DoWearActs FirstBreak PartsFor"
	choiceCalls  = "CheapestLives"
	allWearCalls = wearingCalls + " " + livingCalls + " " + choiceCalls
)

// farWear has numbers that are out of range wherever they are looked at.
func farWear(n int64) wearArgs {
	a := wearArgs{v: exampleLives(), turns: n, step: n, track: n, toStep: n, toTrack: n, pinPrice: n, hammerPrice: n}
	a.act = impl.Act{Kind: int8(n % 100), A: n, B: n, C: n, D: n}
	a.acts = slices.Repeat([]impl.Act{a.act}, 61)
	a.choices = slices.Repeat([]impl.Lives{{Pin: 1, Hammer: 1}}, 21)
	return a
}

func TestP1WearInvalidFirst(t *testing.T) {
	for _, n := range []int64{-1, 1000001, math.MinInt64, math.MaxInt64} {
		far := farWear(n)
		for _, far.f = range invalidFrames() {
			far.w.Strokes = make([]int64, len(far.f.Hammers))
			for _, c := range wearCallsNamed(allWearCalls + " FreshWear") {
				checkWearCode(t, c, far, "invalid")
			}
		}
		for _, far.f = range chimeFrames() {
			for _, far.w = range invalidWearsFor(far.f) {
				for _, c := range wearCallsNamed(allWearCalls) {
					checkWearCode(t, c, far, "invalid")
				}
				wantEqual(t, impl.ValidWear(far.f, far.w), false, "no wear", rawWear(far.w))
			}
			for _, far.d = range invalidDrumsFor(far.f) {
				checkWearCode(t, wearCallsNamed("FreshWear")[0], far, "invalid")
			}
		}
	}
}

func TestP1WearInvalidLivesFirst(t *testing.T) {
	for _, n := range []int64{-1, 1000001, math.MinInt64, math.MaxInt64} {
		far := farWear(n)
		far.f = mustReadFrame(t, twoHammers)
		for _, far.w = range []impl.Wear{worn("[0 0]"), exampleWear(), worn("0/0:1000000 [1000000 1000000]")} {
			for _, far.v = range invalidLives() {
				for _, c := range wearCallsNamed(livingCalls) {
					checkWearCode(t, c, far, "invalid")
				}
				for _, index := range []int{0, 1, 20} {
					choices := far
					choices.choices = slices.Clone(far.choices)
					choices.choices[index] = far.v
					checkWearCode(t, wearCallsNamed(choiceCalls)[0], choices, "invalid")
				}
			}
		}
	}
}

// TestP1WearErrorsInOrder asks for errors where those that come behind them could be told.
func TestP1WearErrorsInOrder(t *testing.T) {
	f, old := mustReadFrame(t, twoHammers), worn("0/0:1000000 [1000000 1000000]")
	for _, n := range []int64{-1, 1000001, math.MinInt64, math.MaxInt64} {
		far := farWear(n)
		far.f, far.w = f, old
		for _, c := range wearCallsNamed("TurnWear NewHammer NewPin MovePin DoWearAct PartsFor CheapestLives") {
			checkWearCode(t, c, far, "range")
		}
		for _, c := range wearCallsNamed("DoWearActs FirstBreak") {
			checkWearCode(t, c, far, "limit")
		}
		far.acts = far.acts[:60]
		checkWearCode(t, wearCallsNamed("DoWearActs")[0], far, "range")
		// Each of the numbers alone, where all that comes behind is an error, too.
		for place := range 4 {
			one := wearArgs{f: f, w: old, v: exampleLives(), choices: []impl.Lives{exampleLives()}}
			*[]*int64{&one.turns, &one.pinPrice, &one.hammerPrice, &one.turns}[place] = n
			if place == 3 {
				one.turns, one.choices = 0, nil
			}
			checkWearCode(t, wearCallsNamed(choiceCalls)[0], one, "range")
		}
	}
	late := wearArgs{f: f, w: old, v: exampleLives(), turns: 1}
	for name, want := range map[string]string{"TurnWear": "limit", "TurnsLeft": "state", "FirstWorn": "state", "PartsFor": "state"} {
		checkWearCode(t, wearCallsNamed(name)[0], late, want)
	}
	late.acts = acts("turn 1")
	checkWearCode(t, wearCallsNamed("DoWearActs")[0], late, "limit")
	late.acts = acts("turn 0")
	checkWearCode(t, wearCallsNamed("DoWearActs")[0], late, "proof")
}

// TestP1WearNothingWithErrors asks that nothing comes with an error, slices being nil or empty.
func TestP1WearNothingWithErrors(t *testing.T) {
	f, w := mustReadFrame(t, twoHammers), exampleWear()
	for _, a := range append(acts("turn -1, turn 1000000, hammer 2, pin 8 0, move 0 0 4 0, move 0 0 0 2"), impl.Act{Kind: 4}) {
		one, _ := impl.DoWearAct(f, w, a)
		all, _ := impl.DoWearActs(f, w, exampleLives(), append(acts("turn 1, hammer 1"), a))
		wantEqual(t, len(one.Pins)+len(one.Strokes)+len(all.Pins)+len(all.Strokes), 0, "nothing with an error", a)
	}
	proof, _ := impl.DoWearActs(f, w, exampleLives(), acts("turn 4"))
	many, _ := impl.DoWearActs(f, w, exampleLives(), make([]impl.Act, 61))
	wantEqual(t, len(proof.Pins)+len(proof.Strokes)+len(many.Pins)+len(many.Strokes), 0, "nothing with ErrProof and ErrLimit")
}

func TestP1WearGreat(t *testing.T) {
	const size = 1000000
	f, v := mustReadFrame(t, twoHammers), exampleLives()
	far := farWear(0)
	far.f, far.acts, far.choices = f, acts("turn 0"), []impl.Lives{v}
	great := []impl.Wear{
		{Strokes: make([]int64, size)},
		{Pins: make([]impl.WornPin, size), Strokes: make([]int64, 2)},
		{Pins: slices.Repeat([]impl.WornPin{{Step: 7, Track: 1}}, size), Strokes: make([]int64, 2)},
		{Pins: slices.Repeat(exampleWear().Pins, size/2), Strokes: make([]int64, 2)},
	}
	ascending := impl.Wear{Strokes: make([]int64, 2)}
	for number := range 1 << 16 {
		ascending.Pins = append(ascending.Pins, impl.WornPin{Step: int8(number/256 - 128), Track: int8(number%256 - 128)})
	}
	for _, far.w = range append(great, ascending) {
		for _, c := range wearCallsNamed(allWearCalls) {
			checkWearCode(t, c, far, "invalid")
		}
		wantEqual(t, impl.ValidWear(f, far.w), false, "a great wear")
		wantEqual(t, impl.SameWear(far.w, far.w), true, "a great wear is the same")
		wantEqual(t, impl.SameWear(far.w, exampleWear()), false, "a great wear is another one")
	}
	far.w = exampleWear()
	for _, a := range []impl.Act{{}, {Kind: 9}, {Kind: impl.AcTurn, A: 9}, {Kind: impl.AcPin, A: math.MaxInt64}} {
		far.acts = slices.Repeat([]impl.Act{a}, size)
		for _, c := range wearCallsNamed("DoWearActs FirstBreak") {
			checkWearCode(t, c, far, "limit")
		}
		wantEqual(t, impl.ActsText(far.acts), "", "text of a great list of acts")
	}
	far.choices = slices.Repeat([]impl.Lives{v}, size)
	checkWearCode(t, wearCallsNamed(choiceCalls)[0], far, "range")
	far.choices[size-1] = impl.Lives{}
	checkWearCode(t, wearCallsNamed(choiceCalls)[0], far, "invalid")
	for _, part := range []string{" ", "\n", "turn", "turn 1", "turn 1\n", "turn 1 ", " 1", "1", "0", "9", "pin 0 0\n", "move 0 0 1 1\n", "\xff", "-", "turn\n"} {
		for _, first := range []string{"", "turn 1\n", "turn ", "move 1 1 1 1 "} {
			for _, last := range []string{"", "\n"} {
				read, code := impl.ReadActs(first + strings.Repeat(part, size/len(part)) + last)
				wantEqual(t, shown(t, code, read), "[syntax]", "read", first, "and", part, "again and again")
			}
		}
	}
}

// TestP1WearMost asks for what takes the longest time.
func TestP1WearMost(t *testing.T) {
	f := likeHammers(96, 24, 0, 2, 20)
	w, _ := impl.FreshWear(f, fullDrum(f))
	v := impl.Lives{Pin: 60, Hammer: 60 * 96}
	a := wearArgs{f: f, w: w, v: v, turns: 1000000, pinPrice: 1, hammerPrice: 1, choices: slices.Repeat([]impl.Lives{v}, 20)}
	a.acts = slices.Repeat(acts("turn 1"), 60)
	for name, want := range map[string]string{
		"TurnsLeft": "ok; 60", "FirstWorn": "ok; 61; 0; 0", "FirstBreak": "notfound; 0", "WornOut": "ok; []; []",
		"PartsFor": fmt.Sprint("ok; ", 2304*16666, "; ", 24*16666), "CheapestLives": fmt.Sprint("ok; 0; ", 2328*16666),
	} {
		wantEqual(t, wearCallsNamed(name)[0].run(a), want, name)
	}
	done, code := impl.DoWearActs(f, w, v, a.acts)
	turned, _ := impl.TurnWear(f, w, 60)
	wantEqual(t, code == impl.OK && impl.SameWear(done, turned), true, "60 turns of the greatest frame")
}

// isWornOut asks WornOut whether something is.
func isWornOut(t *testing.T, a wearArgs, w impl.Wear) bool {
	t.Helper()
	pins, tracks, code := impl.WornOut(a.f, w, a.v)
	wantEqual(t, code, impl.OK, "worn out", a)
	return len(pins)+len(tracks) > 0
}

// checkLeft turns up to the turns that are left, and one more.
func checkLeft(t *testing.T, a wearArgs) string {
	t.Helper()
	left, code := impl.TurnsLeft(a.f, a.w, a.v)
	turn, step, track, found := impl.FirstWorn(a.f, a.w, a.v)
	if isWornOut(t, a, a.w) {
		wantEqual(t, answers(code, left), "state; 0", "worn out already", a)
		wantEqual(t, answers(found, turn, step, track), "state; 0; 0; 0", "worn out already", a)
		return "state"
	}
	wantEqual(t, code == impl.OK && left >= 0 && left <= impl.MaxTurns, true, "turns left", left, a)
	for _, turns := range []int64{0, 1, left / 2, left - 1, left} {
		if turns < 0 || turns > left {
			continue
		}
		w, code := impl.TurnWear(a.f, a.w, turns)
		wantEqual(t, code == impl.OK && !isWornOut(t, a, w), true, "nothing is worn out behind", turns, "of", left, a)
	}
	if left == impl.MaxTurns {
		wantEqual(t, answers(found, turn, step, track), "notfound; 0; 0; 0", "nothing is worn out within MaxTurns", a)
		return "ever"
	}
	wantEqual(t, found == impl.OK && turn == left+1, true, "the first turn behind those left", turn, left, a)
	w, code := impl.TurnWear(a.f, a.w, turn)
	if code == impl.ErrLimit {
		// What has made MaxTurns, and more, is worn out for any lives.
		return "limit"
	}
	pins, tracks, _ := impl.WornOut(a.f, w, a.v)
	if len(pins) > 0 {
		wantEqual(t, fmt.Sprint(step, track), fmt.Sprint(pins[0].Step, pins[0].Track), "the first pin", a)
		return "pin"
	}
	if len(tracks) == 0 {
		t.Errorf("nothing is worn out one turn later: %v", a)
		return "none"
	}
	wantEqual(t, fmt.Sprint(step, track), fmt.Sprint(-1, tracks[0]), "the first hammer", a)
	return "hammer"
}

// wearSubjects are wears of small drums with all small numbers, and random ones.
func wearSubjects() []wearArgs {
	var list []wearArgs
	for _, f := range []impl.Frame{frame(2, 24, 1), frame(2, 24, 1, 24, 2), frame(3, 24, 2)} {
		for _, d := range allDrums(f) {
			for i, w := range allWears(f, d, 3) {
				list = append(list, wearArgs{f: f, d: d, w: w, v: impl.Lives{Pin: int64(1 + i%3), Hammer: int64(1 + i/3%5)}, turns: int64(i % 17)})
			}
		}
	}
	random := rand.New(rand.NewSource(123))
	for range 1500 {
		list = append(list, randomWear(random))
	}
	return list
}

// TestP14NothingWornWithinTurnsLeft goes through small wears, random ones, and some with the greatest numbers.
func TestP14NothingWornWithinTurnsLeft(t *testing.T) {
	found, subjects := map[string]int{}, wearSubjects()
	random := rand.New(rand.NewSource(124))
	for range 1500 {
		a := randomWear(random)
		near := func(most int) int64 { return int64(impl.MaxLife - random.Intn(min(most, impl.MaxLife))) }
		a.v = impl.Lives{Pin: near(9), Hammer: near(9)}
		for i := range a.w.Pins {
			a.w.Pins[i].Turns = near(1 << random.Intn(21))
		}
		for i := range a.w.Strokes {
			a.w.Strokes[i] = near(1 << random.Intn(21))
		}
		subjects = append(subjects, a)
	}
	for _, a := range subjects {
		found[checkLeft(t, a)]++
	}
	for _, what := range []string{"state", "ever", "limit", "pin", "hammer"} {
		if found[what] < 100 {
			t.Errorf("the tests look at too few cases of %s: %v", what, found)
		}
	}
}

// TestP14TurnByTurn turns by single turns until something is worn out.
func TestP14TurnByTurn(t *testing.T) {
	for _, a := range wearSubjects() {
		left, code := impl.TurnsLeft(a.f, a.w, a.v)
		if code != impl.OK || left == impl.MaxTurns {
			continue
		}
		w := a.w
		for done := int64(0); done <= left; done++ {
			wantEqual(t, isWornOut(t, a, w), false, "worn out behind", done, "of", left, a)
			more, code := impl.TurnsLeft(a.f, w, a.v)
			wantEqual(t, code == impl.OK && more == left-done, true, "one turn less is left", done, left, a)
			turn, step, track, _ := impl.FirstWorn(a.f, w, a.v)
			first, sameStep, sameTrack, _ := impl.FirstWorn(a.f, a.w, a.v)
			wantEqual(t, fmt.Sprint(turn+done, step, track), fmt.Sprint(first, sameStep, sameTrack), "the same is worn out first", a)
			w, code = impl.TurnWear(a.f, w, 1)
			if code == impl.ErrLimit {
				break
			}
			wantEqual(t, code, impl.OK, "turn", a)
		}
		wantEqual(t, len(w.Strokes) == 0 || isWornOut(t, a, w), true, "worn out one turn later", a)
	}
}

// TestWearTurnsTogether turns one by one and together, and there and back over a drum.
func TestWearTurnsTogether(t *testing.T) {
	for i, a := range wearSubjects() {
		turns, part := int64(i%23), int64(i%7)
		together, code := impl.TurnWear(a.f, a.w, turns)
		one, ones := a.w, int64(impl.OK)
		for range turns {
			if ones == impl.OK {
				one, ones = impl.TurnWear(a.f, one, 1)
			}
		}
		if turns > 0 {
			wantEqual(t, answers(ones, one), answers(code, together), "one by one", turns, a)
		}
		first, half := impl.TurnWear(a.f, a.w, part)
		if half == impl.OK {
			both, two := impl.TurnWear(a.f, first, turns)
			all, three := impl.TurnWear(a.f, a.w, part+turns)
			wantEqual(t, answers(two, both), answers(three, all), "in two parts", part, turns, a)
		}
		d, code := impl.DrumOfWear(a.f, a.w)
		wantEqual(t, answers(code, d), answers(impl.OK, a.d), "the drum of a wear", a)
		fresh, code := impl.FreshWear(a.f, d)
		wantEqual(t, code == impl.OK && impl.ValidWear(a.f, fresh), true, "fresh", a)
		wantEqual(t, len(fresh.Pins), len(a.w.Pins), "as many pins", a)
		same, _ := impl.DrumOfWear(a.f, fresh)
		wantEqual(t, same == d, true, "the drum of the fresh wear", a)
	}
}

// oneByOne does acts by DoWearAct, and asks WornOut behind each of them.
func oneByOne(t *testing.T, a wearArgs) (impl.Wear, int, int64) {
	t.Helper()
	w := a.w
	for i, act := range a.acts {
		next, code := impl.DoWearAct(a.f, w, act)
		if code == impl.OK && isWornOut(t, a, next) {
			code = impl.ErrProof
		}
		if code != impl.OK {
			return impl.Wear{}, i, code
		}
		w = next
	}
	return w, -1, impl.OK
}

// TestP15ActsOneByOne does acts one by one and together, and those of a list in two parts.
func TestP15ActsOneByOne(t *testing.T) {
	found := map[int64]int{}
	random := rand.New(rand.NewSource(125))
	for range 4000 {
		a := randomWear(random)
		a.acts = nil
		for range random.Intn(20) {
			a.acts = append(a.acts, randomAct(random, a.f, a.w, 2))
		}
		want, index, code := oneByOne(t, a)
		found[code]++
		w, other := impl.DoWearActs(a.f, a.w, a.v, a.acts)
		wantEqual(t, answers(other, w), answers(code, want), "one by one", a)
		bad, none := impl.FirstBreak(a.f, a.w, a.v, a.acts)
		if code != impl.OK {
			wantEqual(t, answers(none, bad), answers(impl.OK, index), "first break", a)
			before, ok := impl.DoWearActs(a.f, a.w, a.v, a.acts[:index])
			wantEqual(t, ok, impl.OK, "up to the first break", a)
			_, again := impl.DoWearActs(a.f, before, a.v, a.acts[index:])
			wantEqual(t, again, code, "from the first break on", a)
			continue
		}
		wantEqual(t, answers(none, bad), "notfound; 0", "no break", a)
		cut := random.Intn(len(a.acts) + 1)
		half, _ := impl.DoWearActs(a.f, a.w, a.v, a.acts[:cut])
		both, ok := impl.DoWearActs(a.f, half, a.v, a.acts[cut:])
		wantEqual(t, answers(ok, both), answers(impl.OK, w), "in two parts", cut, a)
		wantEqual(t, len(a.acts) == 0 || impl.ValidWear(a.f, w) && !isWornOut(t, a, w), true, "nothing is worn out behind acts", a)
	}
	for _, code := range []int64{impl.OK, impl.ErrRange, impl.ErrState, impl.ErrProof} {
		if found[code] < 100 {
			t.Errorf("the tests look at too few lists of acts: %v", found)
		}
	}
}

// TestP15ActsAreFunctions asks that an act does what its function does, whatever it does not use.
func TestP15ActsAreFunctions(t *testing.T) {
	random := rand.New(rand.NewSource(126))
	for range 3000 {
		a := randomWear(random)
		stray, none := func() int64 { return int64(random.Uint64()) }, answers(impl.ErrRange, impl.Wear{})
		turned, one := impl.TurnWear(a.f, a.w, a.turns)
		hammer, two := impl.NewHammer(a.f, a.w, a.track)
		pin, three := impl.NewPin(a.f, a.w, a.step, a.track)
		moved, four := impl.MovePin(a.f, a.w, a.step, a.track, a.toStep, a.toTrack)
		for act, want := range map[impl.Act]string{
			{Kind: 0, A: a.turns, B: stray(), C: stray(), D: stray()}:           answers(one, turned),
			{Kind: 1, A: a.track, B: stray(), C: stray(), D: stray()}:           answers(two, hammer),
			{Kind: 2, A: a.step, B: a.track, C: stray(), D: stray()}:            answers(three, pin),
			{Kind: 3, A: a.step, B: a.track, C: a.toStep, D: a.toTrack}:         answers(four, moved),
			{Kind: 4 + int8(random.Intn(120)), A: a.step, B: a.track}:           none,
			{Kind: -1 - int8(random.Intn(127)), A: a.step, B: a.track}:          none,
			{Kind: 1, A: int64(len(a.f.Hammers)), B: stray(), C: stray()}:       none,
			{Kind: 2, A: int64(a.f.Steps), B: 0, C: stray(), D: stray()}:        none,
			{Kind: 3, A: a.step, B: a.track, C: int64(a.f.Steps), D: 0}:         none,
			{Kind: 0, A: impl.MaxTurns + 1, B: stray(), C: stray(), D: stray()}: none,
			{Kind: 3, A: 0, B: int64(len(a.f.Hammers)), C: a.step, D: 0}:        none,
			{Kind: 3, A: 0, B: 0, C: 0, D: int64(len(a.f.Hammers))}:             none,
			{Kind: 2, A: 0, B: int64(len(a.f.Hammers)), C: stray(), D: stray()}: none,
		} {
			w, code := impl.DoWearAct(a.f, a.w, act)
			wantEqual(t, answers(code, w), want, "act", act, a)
		}
	}
}

// renewedInTime makes pins and hammers new just before the turns in which they would be worn out, and returns how many these were.
func renewedInTime(t *testing.T, a wearArgs) (int64, int64) {
	t.Helper()
	var pins, hammers int64
	w := a.w
	for done := range a.turns {
		next, code := impl.TurnWear(a.f, w, 1)
		wantEqual(t, code, impl.OK, "turn", done, a)
		out, tracks, _ := impl.WornOut(a.f, next, a.v)
		for _, p := range out {
			w, _ = impl.NewPin(a.f, w, int64(p.Step), int64(p.Track))
			pins++
		}
		for _, track := range tracks {
			w, _ = impl.NewHammer(a.f, w, track)
			hammers++
		}
		w, _ = impl.TurnWear(a.f, w, 1)
		wantEqual(t, isWornOut(t, a, w), false, "nothing is worn out with these parts behind", done, a)
	}
	return pins, hammers
}

// TestP15PartsAreEnough makes parts new as they are needed, and asks that these are as many as told.
func TestP15PartsAreEnough(t *testing.T) {
	found := map[string]int{}
	for _, a := range wearSubjects() {
		if a.turns < 0 || a.turns > 1000 {
			continue
		}
		pins, hammers, code := impl.PartsFor(a.f, a.w, a.v, a.turns)
		fresh, _ := impl.FreshWear(a.f, a.d)
		_, weak := impl.DoWearActs(a.f, fresh, a.v, acts("turn 1"))
		if isWornOut(t, a, a.w) || weak != impl.OK {
			wantEqual(t, answers(code, pins, hammers), "state; 0; 0", "parts", a)
			found["state"]++
			continue
		}
		madePins, madeHammers := renewedInTime(t, a)
		wantEqual(t, answers(code, pins, hammers), answers(impl.OK, madePins, madeHammers), "parts", a)
		found["ok"]++
		if pins > 1 && hammers > 1 {
			found["several ones"]++
		}
	}
	for _, what := range []string{"state", "ok", "several ones"} {
		if found[what] < 300 {
			t.Errorf("the tests look at too few cases of %s: %v", what, found)
		}
	}
}

// leastRenewals tries for something that has been used so much all choices of turns before which it is made new.
func leastRenewals(used, makes, life int64, turns int) int64 {
	least := int64(turns + 1)
	for choice := range uint32(1) << turns {
		now, bears := used, true
		for turn := range turns {
			if choice>>turn&1 == 1 {
				now = 0
			}
			now += makes
			bears = bears && now <= life
		}
		if bears {
			least = min(least, int64(bits.OnesCount32(choice)))
		}
	}
	return least
}

// TestP15FewerPartsAreNotEnough tries all other ways to make parts new.
func TestP15FewerPartsAreNotEnough(t *testing.T) {
	random, checked := rand.New(rand.NewSource(127)), 0
	for range 400 {
		a := wearArgs{f: randomFrame(random), turns: int64(random.Intn(9))}
		a.d = randomDrum(random, a.f, 12)
		a.v = impl.Lives{Pin: int64(1 + random.Intn(6)), Hammer: int64(1 + random.Intn(12))}
		a.w = randomWorn(random, a.f, a.d, int(a.v.Pin), int(a.v.Hammer))
		pins, hammers, code := impl.PartsFor(a.f, a.w, a.v, a.turns)
		if code != impl.OK {
			continue
		}
		checked++
		var leastPins, leastHammers int64
		for _, p := range a.w.Pins {
			leastPins += leastRenewals(p.Turns, 1, a.v.Pin, int(a.turns))
		}
		counts, _ := impl.PinsByTrack(a.f, a.d)
		for track, used := range a.w.Strokes {
			leastHammers += leastRenewals(used, counts[track], a.v.Hammer, int(a.turns))
		}
		wantEqual(t, fmt.Sprint(pins, hammers), fmt.Sprint(leastPins, leastHammers), "no fewer parts are enough", a)
	}
	if checked < 200 {
		t.Errorf("the tests look at too few wears: %d", checked)
	}
}

// TestP15CheapestOfAllChoices asks for the parts of each choice alone.
func TestP15CheapestOfAllChoices(t *testing.T) {
	random, found := rand.New(rand.NewSource(128)), map[int64]int{}
	for range 3000 {
		a := randomWear(random)
		a.turns, a.choices = int64(random.Intn(60)), nil
		for range 1 + random.Intn(20) {
			a.choices = append(a.choices, randomLives(random))
		}
		best, least, code := impl.CheapestLives(a.f, a.w, a.pinPrice, a.hammerPrice, a.turns, a.choices)
		found[code]++
		reached := false
		for i, v := range a.choices {
			pins, hammers, bad := impl.PartsFor(a.f, a.w, v, a.turns)
			if bad != impl.OK {
				wantEqual(t, code != impl.OK || best != int64(i), true, "a choice with an error is left out", i, a)
				continue
			}
			price := (pins*a.pinPrice + hammers*a.hammerPrice) * int64(i+1)
			wantEqual(t, price > least || price == least && int64(i) >= best, true, "no choice costs less", i, price, a)
			reached = reached || int64(i) == best && price == least
		}
		wantEqual(t, code == impl.OK, reached, "the best choice, if there is one", a)
	}
	if found[impl.OK] < 1000 || found[impl.ErrNotFound] < 40 {
		t.Errorf("the tests look at too few choices: %v", found)
	}
}

// TestActsFromTexts asks that acts are read from their texts.
func TestActsFromTexts(t *testing.T) {
	random := rand.New(rand.NewSource(129))
	for range 3000 {
		list := []impl.Act{}
		for range random.Intn(61) {
			numbers := [4]int64{}
			kind := random.Intn(4)
			for i := range usedBy[kind] {
				numbers[i] = random.Int63n(1000001) >> random.Intn(20)
			}
			list = append(list, impl.Act{Kind: int8(kind), A: numbers[0], B: numbers[1], C: numbers[2], D: numbers[3]})
		}
		text := impl.ActsText(list)
		wantEqual(t, text, modelActsText(list), "text")
		read, code := impl.ReadActs(text)
		wantEqual(t, answers(code, read), answers(impl.OK, list), "read", text)
	}
}
