package tests

import (
	"fmt"
	"math"
	"math/rand"
	"slices"
	"strings"
	"testing"

	"loop.example/g01311/impl"
)

// spareArrangement returns arguments with spare capacity behind each slice, and a function that shows all of their memory.
func spareArrangement(a arrArgs) (arrArgs, func() string) {
	var hammers []impl.Hammer
	var tune impl.Tune
	var list []impl.Choice
	a.f, hammers = spareFrame(a.f)
	a.t, tune = withSpare(a.t)
	a.list, list = withSpareRoom(a.list, impl.Choice{Away: true, Late: -9, Octave: -9, Track: -9})
	return a, func() string { return fmt.Sprint(hammers, tune, list) }
}

// bareArrangement returns arguments without spare capacity, and in other memory.
func bareArrangement(a arrArgs) arrArgs {
	a.f.Hammers = slices.Clip(slices.Clone(a.f.Hammers))
	a.t = slices.Clip(slices.Clone(a.t))
	a.list = slices.Clip(slices.Clone(a.list))
	return a
}

// arrangementsForPurity are random arguments, and some that are not valid.
func arrangementsForPurity() []arrArgs {
	var list []arrArgs
	random := rand.New(rand.NewSource(141))
	for range 300 {
		list = append(list, randomArrangement(random, 4, 6))
	}
	for i, f := range append(arrFrames(), invalidFrames()...) {
		for j, u := range []impl.Tune{nil, notes(0, 24, 1, 24, 2, 36), notes(1, 24, 1, 24)} {
			a := arrArgs{f: f, t: u, c: costs(3, 2, 1), note: impl.Note{At: int16(i), Pitch: 24}, x: impl.Choice{Away: j == 1}, budget: 100, from: int64(j), text: "0/0/0 x -1/0/0"}
			a.list = choices("0/0/0 x 0/-1/0")[:len(u)]
			list = append(list, a)
		}
	}
	return list
}

func TestP1ArrangementsPure(t *testing.T) {
	for _, a := range arrangementsForPurity() {
		spare, shown := spareArrangement(a)
		bare, before := bareArrangement(a), shown()
		for _, c := range arrCalls() {
			first := c.run(spare)
			wantEqual(t, c.run(spare), first, c.name, "twice", a)
			wantEqual(t, c.run(bare), first, c.name, "with no spare capacity", a)
			wantEqual(t, shown(), before, c.name, "left its arguments", a)
		}
	}
}

// TestP1ArrangementsManyAtATime asks for equal results of many calls at a time.
func TestP1ArrangementsManyAtATime(t *testing.T) {
	subjects := arrangementsForPurity()[:12]
	checkSchedule(t, func() string {
		var results []string
		for _, a := range subjects {
			for _, c := range arrCalls() {
				results = append(results, c.run(a))
			}
		}
		return strings.Join(results, "\n")
	})
}

func TestP1ArrangementsNilOrEmpty(t *testing.T) {
	for _, budget := range []int64{0, impl.MaxLooks} {
		none := arrArgs{f: mustReadFrame(t, twoHammers), c: costs(10, 2, 1), budget: budget}
		empty := none
		empty.t, empty.list = impl.Tune{}, make([]impl.Choice, 0, 5)
		for _, c := range arrCalls() {
			wantEqual(t, c.run(empty), c.run(none), c.name, "of nil and empty")
		}
	}
}

// arrLists has each function of chapter 7 that returns a slice.
func arrLists(a arrArgs) []listOf {
	offered, _ := impl.ChoicesFor(a.f, a.note)
	greedy, _ := impl.Greedy(a.f, a.t, a.c)
	best, _, _ := impl.Arrange(a.f, a.t, a.c, a.budget)
	each, _ := impl.LeastEach(a.f, a.t, a.c)
	heard, _ := impl.HeardTune(a.f, a.t, a.list)
	again, _ := impl.HeardTune(a.f, a.t, greedy)
	read, _ := impl.ReadChoices(a.text)
	filler := impl.Choice{Away: true, Late: 77, Octave: 77, Track: 77}
	return []listOf{
		listOfSlice(offered, filler),
		listOfSlice(greedy, filler),
		listOfSlice(best, filler),
		listOfSlice(each, 77),
		listOfSlice(heard, impl.Note{At: 77, Pitch: 77}),
		listOfSlice(again, impl.Note{At: 77, Pitch: 77}),
		listOfSlice(read, filler),
	}
}

func TestP1ArrangementsShareNoMemory(t *testing.T) {
	for _, a := range arrangementsForPurity() {
		spare, shown := spareArrangement(a)
		checkLists(t, func() []listOf { return arrLists(spare) }, shown)
	}
}

// checkArrCode asks for an error with zero values beside it.
func checkArrCode(t *testing.T, c arrCall, a arrArgs, want string) {
	t.Helper()
	got := c.run(a)
	// An empty list of choices is shown as nothing.
	if zeros := withoutZeros(got); zeros != want {
		t.Errorf("%s: %s: got %s, want %s and zero values", c.name, a, got, want)
	}
}

const (
	// Functions with a list of choices for a tune, with costs for one, and with a tune alone.
	fitCalls   = "DrumFor FirstUnfit CheckChoices KeptNotes HeardTune"
	priceCalls = "Greedy Arrange LeastEach BoundFrom"
	tuneOnly   = "MostKept"
)

// farArrangement has numbers that are out of range wherever they are looked at, and more choices than there may be.
func farArrangement(n int64) arrArgs {
	a := arrArgs{f: frame(8, 24, 3, 28, 2), t: notes(0, 24, 1, 24, 199, 47), c: costs(1000, 1000, 1000), budget: n, from: n}
	a.list = slices.Repeat(choices("0/0/23"), 121)
	return a
}

func TestP1ArrangementsInvalidFirst(t *testing.T) {
	for _, n := range []int64{-1, 20001, math.MinInt64, math.MaxInt64} {
		far := farArrangement(n)
		for _, far.f = range invalidFrames() {
			for _, c := range arrCallsNamed(fitCalls + " " + priceCalls + " " + tuneOnly + " ChoicesFor") {
				checkArrCode(t, c, far, "invalid")
			}
		}
		far = farArrangement(n)
		for _, far.t = range invalidTunes() {
			for _, c := range arrCallsNamed(fitCalls + " " + priceCalls + " " + tuneOnly) {
				checkArrCode(t, c, far, "invalid")
			}
		}
		far = farArrangement(n)
		for _, far.c = range invalidCosts() {
			for _, c := range arrCallsNamed(priceCalls + " CostOf") {
				checkArrCode(t, c, far, "invalid")
			}
		}
	}
}

func TestP1ArrangementsInvalidChoicesFirst(t *testing.T) {
	far := farArrangement(-1)
	for _, bad := range invalidChoices() {
		for _, index := range []int{0, 1, 2, 60, 120} {
			one := far
			one.list = slices.Clone(far.list)
			one.list[index] = bad
			for _, c := range arrCallsNamed(fitCalls + " CostOf") {
				checkArrCode(t, c, one, "invalid")
			}
			if index < len(far.t) {
				one.list = one.list[:len(far.t)]
				for _, c := range arrCallsNamed(fitCalls) {
					checkArrCode(t, c, one, "invalid")
				}
			}
		}
		for _, far.note = range append(invalidNotes(), impl.Note{At: 3, Pitch: 24}) {
			far.x = bad
			checkArrCode(t, arrCallsNamed("NoteOf")[0], far, "invalid")
		}
	}
	for _, far.note = range invalidNotes() {
		for _, far.x = range choices("x 0/0/0 -3/1/0") {
			checkArrCode(t, arrCallsNamed("NoteOf")[0], far, "invalid")
			checkArrCode(t, arrCallsNamed("ChoicesFor")[0], far, "invalid")
		}
	}
}

// TestP1ArrangementsErrorsInOrder asks for errors where those that come behind them could be told.
func TestP1ArrangementsErrorsInOrder(t *testing.T) {
	for _, n := range []int64{-1, 20001, math.MinInt64, math.MaxInt64} {
		far := farArrangement(n)
		for _, c := range arrCallsNamed("DrumFor FirstUnfit KeptNotes HeardTune Arrange MostKept BoundFrom") {
			checkArrCode(t, c, far, "range")
		}
		checkArrCode(t, arrCallsNamed("CostOf")[0], far, "limit")
		checkArrCode(t, arrCallsNamed("CheckChoices")[0], far, "ok")
		for count := range 6 {
			few := far
			few.list = few.list[:count]
			want := map[bool]string{true: "state", false: "range"}[count == len(few.t)]
			for _, c := range arrCallsNamed("DrumFor KeptNotes HeardTune") {
				checkArrCode(t, c, few, want)
			}
			unfit := map[bool]string{true: "ok", false: "range"}[count == len(few.t)]
			checkArrCode(t, arrCallsNamed("FirstUnfit")[0], few, unfit)
			checkArrCode(t, arrCallsNamed("CheckChoices")[0], few, "ok")
		}
	}
	far := farArrangement(0)
	for _, c := range arrCallsNamed("Arrange MostKept") {
		checkArrCode(t, c, far, "budget")
	}
}

// TestP1ArrangementsNothingWithErrors asks that nothing comes with an error, slices being nil or empty.
func TestP1ArrangementsNothingWithErrors(t *testing.T) {
	f, u := mustReadFrame(t, twoHammers), mustReadTune(t, exampleTune)
	for _, list := range [][]impl.Choice{choices("0/0/0 0/0/0 x"), choices("0/0/0 2/0/0"), choices("0/0/0 2/0/0 0/0/24")} {
		d, one := impl.DrumFor(f, u, list)
		heard, two := impl.HeardTune(f, u, list)
		kept, three := impl.KeptNotes(f, u, list)
		wantEqual(t, d == impl.Drum{} && len(heard) == 0 && kept == 0 && one == two && two == three && one != impl.OK, true, "nothing with an error", rawChoices(list))
	}
	for _, budget := range []int64{-1, 0, 1, 2, 3, 20001} {
		best, cost, code := impl.Arrange(f, u, costs(10, 2, 1), budget)
		wantEqual(t, len(best) == 0 && cost == 0 && code != impl.OK, true, "nothing with too few looks", budget)
	}
	read, code := impl.ReadChoices("0/0/0 x 0/0/24")
	wantEqual(t, len(read) == 0 && code == impl.ErrSyntax, true, "nothing with ErrSyntax")
}

func TestP1ArrangementsGreat(t *testing.T) {
	const size = 1000000
	far := farArrangement(-1)
	far.t = slices.Repeat(impl.Tune{{At: 1, Pitch: 24}}, size)
	for _, c := range arrCallsNamed(fitCalls + " " + priceCalls + " " + tuneOnly) {
		checkArrCode(t, c, far, "invalid")
	}
	far = farArrangement(-1)
	far.f.Hammers = slices.Repeat(far.f.Hammers, size/2)
	for _, c := range arrCallsNamed(fitCalls + " " + priceCalls + " " + tuneOnly + " ChoicesFor") {
		checkArrCode(t, c, far, "invalid")
	}
	far = farArrangement(-1)
	for _, text := range []string{"x", "0/0/0", "3/1/23"} {
		far.list = slices.Repeat(choices(text), size)
		for _, c := range arrCallsNamed("DrumFor FirstUnfit KeptNotes HeardTune") {
			checkArrCode(t, c, far, "range")
		}
		checkArrCode(t, arrCallsNamed("CheckChoices")[0], far, "ok")
		checkArrCode(t, arrCallsNamed("CostOf")[0], far, "limit")
		wantEqual(t, impl.ChoicesText(far.list), "", "text of a great list of choices")
		far.list[size-1].Track = 24
		for _, c := range arrCallsNamed(fitCalls + " CostOf") {
			checkArrCode(t, c, far, "invalid")
		}
	}
	for _, part := range []string{" ", "/", "x", "x ", " x", "0", "0/", "0/0/0", "0/0/0 ", " 0/0/0", "-", "\n", "\xff"} {
		for _, first := range []string{"", "x ", "0/0/0 ", "0/0/"} {
			text := first + strings.Repeat(part, size/len(part))
			read, code := impl.ReadChoices(text)
			wantEqual(t, code == impl.ErrSyntax && len(read) == 0, true, "read", first, "and", part, "again and again")
		}
	}
}

// TestP1ArrangementsMost asks for what takes the longest time.
func TestP1ArrangementsMost(t *testing.T) {
	for _, f := range []impl.Frame{likeHammers(96, 24, 24, 0, 20), spread(96, 8, 20, 12, 24, 36)} {
		a := arrArgs{f: f, t: row(120, 0, 24, 1, 0), c: costs(1000, 2, 1), budget: impl.MaxLooks}
		for _, c := range arrCallsNamed("Arrange MostKept") {
			checkArrCode(t, c, a, "budget")
		}
		a.c = costs(0, 0, 0)
		best, cost, code := impl.Arrange(a.f, a.t, a.c, 120)
		fits, _ := impl.CheckChoices(a.f, a.t, best)
		wantEqual(t, fmt.Sprint(len(best), cost, code, fits), "120 0 0 true", "the longest tune")
	}
}

// fitBySteps puts the pins of an arrangement in with the functions of chapter 2, and returns their drum, what they play, and the first choice that does not fit, -1 if there is none.
func fitBySteps(t *testing.T, f impl.Frame, u impl.Tune, list []impl.Choice) (impl.Drum, impl.Tune, int) {
	t.Helper()
	var d impl.Drum
	var heard []impl.Note
	for i, x := range list {
		offered, code := impl.ChoicesFor(f, u[i])
		wantEqual(t, code, impl.OK, "choices for a note", rawFrame(f), u[i])
		if !slices.Contains(offered, x) {
			return d, nil, i
		}
		if x.Away {
			continue
		}
		n, code := impl.NoteOf(u[i], x)
		wantEqual(t, code, impl.OK, "note of a choice", rawFrame(f), u[i], x)
		free, code := impl.FreePlaces(f, d, int64(x.Track))
		wantEqual(t, code, impl.OK, "free places", rawFrame(f), rawDrum(d), x)
		if !slices.Contains(free, int64(n.At)) {
			return d, nil, i
		}
		d, code = impl.WithPin(f, d, int64(n.At), int64(x.Track))
		wantEqual(t, code, impl.OK, "with a pin", rawFrame(f), x)
		wantEqual(t, n.Pitch, f.Hammers[x.Track].Pitch, "the pitch of the hammer", rawFrame(f), u[i], x)
		heard = append(heard, n)
	}
	whole, code := impl.MakeTune(heard)
	wantEqual(t, code, impl.OK, "what is heard", rawFrame(f), raw(u))
	return d, whole, -1
}

// checkHeard asks that an arrangement that fits makes a drum without a clash, which plays what is heard, and that one that does not fit makes none; it reports whether it fits.
func checkHeard(t *testing.T, f impl.Frame, u impl.Tune, list []impl.Choice) bool {
	t.Helper()
	name := fmt.Sprint(rawFrame(f), "; ", raw(u), "; ", rawChoices(list))
	want, whole, bad := fitBySteps(t, f, u, list)
	d, one := impl.DrumFor(f, u, list)
	heard, two := impl.HeardTune(f, u, list)
	kept, three := impl.KeptNotes(f, u, list)
	index, four := impl.FirstUnfit(f, u, list)
	fits, five := impl.CheckChoices(f, u, list)
	if bad >= 0 {
		got := answers(one, d, two, heard, three, kept, four, index, fits, five)
		wantEqual(t, got, answers(impl.ErrState, impl.Drum{}, 4, impl.Tune{}, 4, 0, 0, bad, false, 0), "does not fit", name)
		return false
	}
	wantEqual(t, answers(four, index, fits, five), "notfound; 0; true; 0", "fits", name)
	wantEqual(t, answers(one, d, two, heard), answers(impl.OK, want, 0, whole), "the drum with these pins, and what it plays", name)
	played, six := impl.TuneOf(f, d)
	can, seven := impl.IsPlayable(f, d)
	clashes, eight := impl.ClashesOf(f, d)
	pins, nine := impl.CountPins(f, d)
	got := fmt.Sprint(raw(played), six, can, seven, len(clashes), eight, pins, nine, kept, three)
	wantEqual(t, got, fmt.Sprint(raw(heard), 0, true, 0, 0, 0, kept, 0, pins, 0), "no clash, and plays what is heard", name)
	return true
}

// TestP16FitsWithoutClash goes through random arrangements that fit, or almost do.
func TestP16FitsWithoutClash(t *testing.T) {
	random, found := rand.New(rand.NewSource(142)), map[bool]int{}
	for range 6000 {
		a := randomArrangement(random, 4, 8)
		if len(a.list) != len(a.t) {
			continue
		}
		fits := checkHeard(t, a.f, a.t, a.list)
		found[fits]++
		if fits && len(a.list) > 0 {
			checkBeginnings(t, a)
		}
	}
	if found[true] < 2000 || found[false] < 500 {
		t.Errorf("the tests look at too few arrangements: %v", found)
	}
}

// checkBeginnings asks that each beginning of an arrangement that fits is one as well, and so is what is left if notes are left away.
func checkBeginnings(t *testing.T, a arrArgs) {
	t.Helper()
	for i := range a.list {
		wantEqual(t, checkHeard(t, a.f, a.t[:i], a.list[:i]), true, "the beginning of an arrangement that fits", i, a)
		less := slices.Clone(a.list)
		less[i] = impl.Choice{Away: true}
		wantEqual(t, checkHeard(t, a.f, a.t, less), true, "one note less", i, a)
	}
}

// TestP16AllSmallArrangements goes through all arrangements of small tunes, whether they fit or not.
func TestP16AllSmallArrangements(t *testing.T) {
	found := map[bool]int{}
	for _, c := range [][2]string{
		{"2 c2/1", "0:c2 1:c2"}, {"2 c2/2", "0:c2 1:c2"}, {"2 c2/2 c2/1", "0:c2 3:c2"}, {"3 c1/2 c2/3", "0:c2 2:c2"}, {"3 c3/3 c1/1", "1:c2 2:c2"},
		{"4 c2/2", "0:c2 3:c2 4:c2"}, {"5 c2/3 e2/1", "0:c2 2:e2 4:c2"}, {"8 c2/3 e2/2", "0:c2 1:c2 2:e3"}, {"8 c2/8", "3:c2 10:c2"}, {"20 c2/20 c2/19", "0:c2 19:c2"},
	} {
		f, u := mustReadFrame(t, c[0]), mustReadTune(t, c[1])
		eachList(t, f, u, func(list []impl.Choice) {
			found[checkHeard(t, f, u, list)]++
		})
	}
	if found[true] < 300 || found[false] < 300 {
		t.Errorf("the tests look at too few arrangements: %v", found)
	}
}

// eachList calls a function with all lists of choices for the notes of a tune.
func eachList(t *testing.T, f impl.Frame, u impl.Tune, call func(list []impl.Choice)) {
	t.Helper()
	var offered [][]impl.Choice
	for _, n := range u {
		list, code := impl.ChoicesFor(f, n)
		wantEqual(t, code, impl.OK, "choices for a note", rawFrame(f), n)
		offered = append(offered, list)
	}
	var goOn func(begun []impl.Choice)
	goOn = func(begun []impl.Choice) {
		if len(begun) == len(u) {
			call(begun)
			return
		}
		for _, x := range offered[len(begun)] {
			goOn(append(slices.Clone(begun), x))
		}
	}
	goOn(nil)
}

// price asks CostOf for the cost of choices.
func price(t *testing.T, c impl.Costs, list []impl.Choice) int64 {
	t.Helper()
	cost, code := impl.CostOf(c, list)
	wantEqual(t, code, impl.OK, "cost of choices", c, rawChoices(list))
	return cost
}

// checkBounds asks that an arrangement costs no less, from each note on, than the bound, and each of its choices no less than the least one.
func checkBounds(t *testing.T, a arrArgs, list []impl.Choice) {
	t.Helper()
	each, code := impl.LeastEach(a.f, a.t, a.c)
	wantEqual(t, code == impl.OK && len(each) == len(a.t), true, "a least cost for each note", a)
	for from := range len(list) + 1 {
		bound, code := impl.BoundFrom(a.f, a.t, a.c, int64(from))
		wantEqual(t, code, impl.OK, "bound", from, a)
		wantEqual(t, bound <= price(t, a.c, list[from:]), true, "no less than the bound", from, rawChoices(list), a)
		wantEqual(t, bound, sumOf(each[from:]), "the bound is the sum of the least costs", from, a)
		if from < len(list) {
			wantEqual(t, each[from] <= price(t, a.c, list[from:from+1]), true, "no less than the least cost", from, rawChoices(list), a)
		}
	}
}

// checkFound asks of an arrangement that is found all that can be asked without looking at others, and returns its cost; -1 if it needs too many looks.
func checkFound(t *testing.T, a arrArgs) int64 {
	t.Helper()
	greedy, code := impl.Greedy(a.f, a.t, a.c)
	wantEqual(t, code == impl.OK && len(greedy) == len(a.t) && checkHeard(t, a.f, a.t, greedy), true, "the greedy one fits", rawChoices(greedy), a)
	checkBounds(t, a, greedy)
	best, cost, code := impl.Arrange(a.f, a.t, a.c, impl.MaxLooks)
	if code == impl.ErrBudget {
		return -1
	}
	wantEqual(t, code == impl.OK && len(best) == len(a.t) && checkHeard(t, a.f, a.t, best), true, "the best one fits", rawChoices(best), a)
	wantEqual(t, price(t, a.c, best), cost, "the cost of the best one", rawChoices(best), a)
	checkBounds(t, a, best)
	wantEqual(t, cost <= price(t, a.c, greedy), true, "no more than the greedy one", rawChoices(best), rawChoices(greedy), a)
	return cost
}

// TestP17FoundFits asks also of long tunes, and holds what is found against random arrangements that fit.
func TestP17FoundFits(t *testing.T) {
	random, found := rand.New(rand.NewSource(143)), map[string]int{}
	for range 2500 {
		a := randomArrangement(random, 4, 8)
		cost := checkFound(t, a)
		if cost == -1 {
			found["budget"]++
			continue
		}
		greedy, _ := impl.Greedy(a.f, a.t, a.c)
		if cost < price(t, a.c, greedy) {
			found["less than greedy"]++
		}
		if bound, _ := impl.BoundFrom(a.f, a.t, a.c, 0); cost > bound {
			found["more than the bound"]++
		}
		for range 4 {
			other := randomChoices(random, a.f, a.t)
			if fits, _ := impl.CheckChoices(a.f, a.t, other); fits {
				found["others"]++
				wantEqual(t, cost <= price(t, a.c, other), true, "no more than another one", rawChoices(other), a)
				checkBounds(t, a, other)
			}
		}
	}
	for _, what := range []string{"less than greedy", "more than the bound", "others"} {
		if found[what] < 100 {
			t.Errorf("the tests look at too few cases: %v", found)
		}
	}
}

// TestP17NoArrangementCostsLess goes through all arrangements that there are.
func TestP17NoArrangementCostsLess(t *testing.T) {
	random, checked := rand.New(rand.NewSource(144)), 0
	for checked < 300 {
		a := randomArrangement(random, 3, 4)
		if len(a.t) < 2 || countArrangements(a.f, a.t) > 3000 {
			continue
		}
		checked++
		cost, reached := checkFound(t, a), false
		most, code := impl.MostKept(a.f, a.t, impl.MaxLooks)
		wantEqual(t, code, impl.OK, "most kept", a)
		all := false
		eachList(t, a.f, a.t, func(list []impl.Choice) {
			kept, code := impl.KeptNotes(a.f, a.t, list)
			if code != impl.OK {
				return
			}
			other := price(t, a.c, list)
			wantEqual(t, other >= cost && kept <= most, true, "no arrangement costs less, or keeps more", other, cost, kept, most, rawChoices(list), a)
			reached, all = reached || other == cost, all || kept == most
		})
		wantEqual(t, reached && all, true, "there are such arrangements", cost, most, a)
	}
}

// TestP17MostKeptIsArrange asks that MostKept tells what Arrange does with the costs 1, 0 and 0.
func TestP17MostKeptIsArrange(t *testing.T) {
	random := rand.New(rand.NewSource(145))
	for range 1500 {
		a := randomArrangement(random, 3, 6)
		list, cost, one := impl.Arrange(a.f, a.t, costs(1, 0, 0), a.budget)
		most, two := impl.MostKept(a.f, a.t, a.budget)
		wantEqual(t, one, two, "the same error", a)
		if one == impl.OK {
			kept, code := impl.KeptNotes(a.f, a.t, list)
			wantEqual(t, answers(code, kept, int64(len(a.t))-cost), answers(impl.OK, most, most), "the most that can be kept", a)
		}
	}
}

// TestP17FirstOfSeveral asks that of several best arrangements the one is told whose choices come first.
func TestP17FirstOfSeveral(t *testing.T) {
	random, several := rand.New(rand.NewSource(146)), 0
	for several < 150 {
		a := randomArrangement(random, 3, 3)
		a.c = []impl.Costs{{}, costs(1, 0, 0), costs(1000, 1000, 1000), costs(2, 1, 1), costs(1, 1, 0)}[several%5]
		if len(a.t) < 2 || countArrangements(a.f, a.t) > 2000 {
			continue
		}
		best, cost, code := impl.Arrange(a.f, a.t, a.c, impl.MaxLooks)
		wantEqual(t, code, impl.OK, "arrange", a)
		ranks, count := ranksOf(a, best), 0
		eachList(t, a.f, a.t, func(list []impl.Choice) {
			if fits, _ := impl.CheckChoices(a.f, a.t, list); fits && price(t, a.c, list) == cost {
				count++
				wantEqual(t, slices.Compare(ranks, ranksOf(a, list)) <= 0, true, "the first one of several", rawChoices(best), rawChoices(list), a)
			}
		})
		if count > 1 {
			several++
		}
	}
}

// ranksOf tells for each choice of an arrangement its place among those for its note, by their costs, and then as choices.
func ranksOf(a arrArgs, list []impl.Choice) []int {
	var ranks []int
	for i, x := range list {
		ranks = append(ranks, slices.Index(byCost(a.f, a.t[i], a.c), x))
	}
	return ranks
}

// checkPins asks that what a drum plays is what its pins say, place by place.
func checkPins(t *testing.T, f impl.Frame, d impl.Drum) {
	t.Helper()
	played, code := impl.TuneOf(f, d)
	said := map[spot]bool{}
	for step := range int64(f.Steps) {
		for track, h := range f.Hammers {
			has, one := impl.HasPin(f, d, step, int64(track))
			wantEqual(t, one, impl.OK, "has a pin", step, track)
			if has {
				said[spot{step, int64(h.Pitch)}] = true
			}
		}
	}
	want, other := spotTune(said)
	wantEqual(t, answers(code, played), answers(other, want), "plays what its pins say", rawFrame(f), rawDrum(d))
}

// TestP18PinsSayWhatIsPlayed asks drums on which a tune is pinned, drums that an arrangement makes, and random ones.
func TestP18PinsSayWhatIsPlayed(t *testing.T) {
	found := map[string]int{}
	for _, a := range pinSubjects(t, 800) {
		one, _, code := impl.PinTune(a.f, a.t, impl.MaxTries)
		two, greedily := impl.PinGreedily(a.f, a.t)
		three, _, _, like := impl.PinLike(a.f, a.d, a.t, impl.MaxTries)
		for i, d := range []impl.Drum{one, two, three} {
			if []int64{code, greedily, like}[i] == impl.OK {
				found["pinned"]++
				checkPins(t, a.f, d)
				played, _ := impl.TuneOf(a.f, d)
				wantEqual(t, raw(played), raw(a.t), "plays the tune", rawFrame(a.f))
			}
		}
		checkPins(t, a.f, a.d)
	}
	random := rand.New(rand.NewSource(147))
	for range 1500 {
		a := randomArrangement(random, 4, 8)
		greedy, _ := impl.Greedy(a.f, a.t, a.c)
		best, _, _ := impl.Arrange(a.f, a.t, a.c, a.budget)
		for _, list := range [][]impl.Choice{a.list, greedy, best} {
			if d, code := impl.DrumFor(a.f, a.t, list); code == impl.OK {
				found["arranged"]++
				checkPins(t, a.f, d)
				heard, _ := impl.HeardTune(a.f, a.t, list)
				played, _ := impl.TuneOf(a.f, d)
				wantEqual(t, raw(heard), raw(played), "plays what is heard", a)
			}
		}
	}
	if found["pinned"] < 1000 || found["arranged"] < 2000 {
		t.Errorf("the tests look at too few drums: %v", found)
	}
}

// TestP18NoOrderCostsLess arranges tunes for one frame, and holds the best order of their drums against all orders.
func TestP18NoOrderCostsLess(t *testing.T) {
	random := rand.New(rand.NewSource(148))
	for range 150 {
		a := randomArrangement(random, 4, 0)
		r := repArgs{f: a.f}
		for range 1 + random.Intn(5) {
			u := nearTune(random, a.f, 5)
			list, _, code := impl.Arrange(a.f, u, costs(9, 2, 1), impl.MaxLooks)
			if code != impl.OK {
				list, _ = impl.Greedy(a.f, u, costs(9, 2, 1))
			}
			d, code := impl.DrumFor(a.f, u, list)
			wantEqual(t, code, impl.OK, "an arrangement that is found fits", rawFrame(a.f), raw(u))
			r.list = append(r.list, d)
		}
		for first := int64(-1); first < int64(len(r.list)); first++ {
			best, cost, code := impl.BestOrder(r.f, r.list, first)
			wantEqual(t, code, impl.OK, "best order", first, r)
			checkBest(t, r, best, cost, first, func(order []int64) int64 { return costOf(t, r, order) })
		}
	}
}

// TestP18FoundFits asks that what is found fits, whatever there is room for.
func TestP18FoundFits(t *testing.T) {
	for _, f := range append(arrFrames(), validFrames()...) {
		for i, u := range validTunes() {
			a := arrArgs{f: f, t: u, c: []impl.Costs{costs(10, 2, 1), costs(0, 0, 0), costs(1000, 1000, 1000), costs(1, 2, 3)}[i%4]}
			if len(u) <= 30 {
				checkFound(t, a)
				continue
			}
			greedy, code := impl.Greedy(f, u, a.c)
			wantEqual(t, code == impl.OK && checkHeard(t, f, u, greedy), true, "the greedy one fits", a)
		}
	}
}

// TestChoicesFromTexts asks that choices are read from their texts.
func TestChoicesFromTexts(t *testing.T) {
	random := rand.New(rand.NewSource(149))
	for range 2000 {
		list := []impl.Choice{}
		for range random.Intn(121) {
			x := anyChoice(random)
			if random.Intn(4) == 0 {
				x = impl.Choice{Away: true}
			}
			list = append(list, x)
		}
		text := impl.ChoicesText(list)
		wantEqual(t, text, rawChoices(list), "text")
		read, code := impl.ReadChoices(text)
		wantEqual(t, code == impl.OK && slices.Equal(read, list), true, "read", text)
	}
}
