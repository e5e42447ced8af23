package tests

import (
	"cmp"
	"fmt"
	"math"
	"math/bits"
	"math/rand"
	"slices"
	"strings"
	"testing"

	"loop.example/g01311/impl"
)

// This file tells chapter 7 once more, by lists of all choices and sets of places, and holds the program against it.

func modelCosts(c impl.Costs) bool {
	return min(c.Away, c.Octave, c.Step) >= 0 && max(c.Away, c.Octave, c.Step) <= 1000
}

// orderedChoices are all choices that are valid, in their order.
var orderedChoices = func() []impl.Choice {
	var list []impl.Choice
	for _, late := range []int8{0, -1, 1, -2, 2, -3, 3} {
		for _, octave := range []int8{0, -1, 1} {
			for track := range int8(24) {
				list = append(list, impl.Choice{Late: late, Octave: octave, Track: track})
			}
		}
	}
	return append(list, impl.Choice{Away: true})
}()

// choiceTexts has the text of each choice.
var choiceTexts = func() map[string]impl.Choice {
	lookup := map[string]impl.Choice{}
	for _, x := range orderedChoices {
		lookup[rawChoices([]impl.Choice{x})] = x
	}
	return lookup
}()

func modelChoice(x impl.Choice) bool { return slices.Contains(orderedChoices, x) }

func areModelChoices(list []impl.Choice) bool {
	return !slices.ContainsFunc(list, func(x impl.Choice) bool { return !modelChoice(x) })
}

func modelNote(n impl.Note) bool { return spotsOf(impl.Tune{n})[0].exists() }

// placeOf is where the pin of a note is by a choice.
func placeOf(n impl.Note, x impl.Choice) place {
	return place{int64(n.At) + int64(x.Late), int64(x.Track)}
}

// modelOffers reports whether a choice is one of those for a note.
func modelOffers(f impl.Frame, n impl.Note, x impl.Choice) bool {
	p := placeOf(n, x)
	if x.Away {
		return true
	}
	if p.step < 0 || p.step >= int64(f.Steps) || int(x.Track) >= len(f.Hammers) {
		return false
	}
	return int(f.Hammers[x.Track].Pitch) == int(n.Pitch)+12*int(x.Octave)
}

func modelChoices(f impl.Frame, n impl.Note) []impl.Choice {
	list := []impl.Choice{}
	for _, x := range orderedChoices {
		if modelOffers(f, n, x) {
			list = append(list, x)
		}
	}
	return list
}

// modelCostOf counts what is paid for.
func modelCostOf(c impl.Costs, list ...impl.Choice) int64 {
	var away, octaves, steps int64
	for _, x := range list {
		if x.Away {
			away++
		}
		octaves += int64(x.Octave) * int64(x.Octave)
		steps += map[int8]int64{-3: 3, -2: 2, -1: 1, 0: 0, 1: 1, 2: 2, 3: 3}[x.Late]
	}
	return away*int64(c.Away) + octaves*int64(c.Octave) + steps*int64(c.Step)
}

// byCost are the choices for a note, ordered by their costs, and then as choices.
func byCost(f impl.Frame, n impl.Note, c impl.Costs) []impl.Choice {
	all, list := modelChoices(f, n), modelChoices(f, n)
	slices.SortFunc(list, func(x, y impl.Choice) int {
		return cmp.Or(cmp.Compare(modelCostOf(c, x), modelCostOf(c, y)), cmp.Compare(slices.Index(all, x), slices.Index(all, y)))
	})
	return list
}

// modelLeast returns the least cost of each note.
func modelLeast(f impl.Frame, t impl.Tune, c impl.Costs) []int64 {
	list := []int64{}
	for _, n := range t {
		least := int64(math.MaxInt64)
		for _, x := range modelChoices(f, n) {
			least = min(least, modelCostOf(c, x))
		}
		list = append(list, least)
	}
	return list
}

func sumOf(list []int64) int64 {
	var sum int64
	for _, n := range list {
		sum += n
	}
	return sum
}

// modelPins returns the pins of an arrangement, and the index of the first choice that does not fit, -1 if there is none.
func modelPins(f impl.Frame, t impl.Tune, list []impl.Choice) (model, int) {
	m := modelOf(f, impl.Drum{})
	for i, x := range list {
		if !modelOffers(f, t[i], x) || !x.Away && !m.free(placeOf(t[i], x)) {
			return m, i
		}
		if !x.Away {
			m = m.with(placeOf(t[i], x))
		}
	}
	return m, -1
}

// modelGreedy gives each note the first choice in their order by costs that makes what has been given one that fits.
func modelGreedy(f impl.Frame, t impl.Tune, c impl.Costs) []impl.Choice {
	list := []impl.Choice{}
	for i, n := range t {
		for _, x := range byCost(f, n, c) {
			if _, bad := modelPins(f, t[:i+1], append(list, x)); bad == -1 {
				list = append(list, x)
				break
			}
		}
	}
	return list
}

// arrSearch looks at choices as the document tells it.
type arrSearch struct {
	f      impl.Frame
	t      impl.Tune
	c      impl.Costs
	lists  [][]impl.Choice
	budget int64
	looks  int64
	best   []impl.Choice
	found  bool
}

func arrSearchOf(f impl.Frame, t impl.Tune, c impl.Costs, budget int64) *arrSearch {
	s := &arrSearch{f: f, t: t, c: c, budget: budget}
	for _, n := range t {
		s.lists = append(s.lists, byCost(f, n, c))
	}
	s.goOn(modelOf(f, impl.Drum{}), nil, modelLeast(f, t, c))
	return s
}

// goOn reports whether there have not been too many looks.
func (s *arrSearch) goOn(m model, begun []impl.Choice, least []int64) bool {
	if len(begun) == len(s.t) {
		s.best, s.found = slices.Clone(begun), true
		return true
	}
	n := s.t[len(begun)]
	for _, x := range s.lists[len(begun)] {
		if !x.Away && !m.free(placeOf(n, x)) {
			continue
		}
		next := append(slices.Clone(begun), x)
		if s.found && modelCostOf(s.c, next...)+sumOf(least[1:]) >= modelCostOf(s.c, s.best...) {
			continue
		}
		if s.looks++; s.looks > s.budget {
			return false
		}
		with := m
		if !x.Away {
			with = m.with(placeOf(n, x))
		}
		if !s.goOn(with, next, least[1:]) {
			return false
		}
	}
	return true
}

func (s *arrSearch) code() int64 {
	if s.looks > s.budget {
		return impl.ErrBudget
	}
	return impl.OK
}

func modelChoicesText(list []impl.Choice) string {
	if len(list) > 120 || !areModelChoices(list) {
		return ""
	}
	return rawChoices(list)
}

func modelReadChoices(text string) ([]impl.Choice, int64) {
	list := []impl.Choice{}
	if text == "" {
		return list, impl.OK
	}
	for _, part := range strings.Split(text, " ") {
		x, ok := choiceTexts[part]
		if !ok || len(list) == 120 {
			return nil, impl.ErrSyntax
		}
		list = append(list, x)
	}
	return list, impl.OK
}

// code tells ErrInvalid where a frame, a tune, costs or choices are not valid.
func (a arrArgs) code(c impl.Costs, list ...impl.Choice) int64 {
	if !modelFrame(a.f) || !modelValid(a.t) || !modelCosts(c) || !areModelChoices(list) {
		return impl.ErrInvalid
	}
	return impl.OK
}

// countCode is code for choices, or ErrRange, behind it, if they are not as many as notes.
func (a arrArgs) countCode() int64 {
	code := a.code(impl.Costs{}, a.list...)
	if code == impl.OK && len(a.list) != len(a.t) {
		return impl.ErrRange
	}
	return code
}

// fitCode is countCode, or ErrState, behind it, if the arrangement does not fit.
func (a arrArgs) fitCode() int64 {
	code := a.countCode()
	if code != impl.OK {
		return code
	}
	if _, bad := modelPins(a.f, a.t, a.list); bad >= 0 {
		return impl.ErrState
	}
	return impl.OK
}

// searched returns the search for the best arrangement, and its code.
func (a arrArgs) searched(c impl.Costs) (*arrSearch, int64) {
	code := a.code(c)
	if code == impl.OK && (a.budget < 0 || a.budget > 20000) {
		code = impl.ErrRange
	}
	if code != impl.OK {
		return nil, code
	}
	s := arrSearchOf(a.f, a.t, c, a.budget)
	return s, s.code()
}

// arrCall is a function of chapter 7: what the program returns, and what the model does.
type arrCall struct {
	name string
	run  func(a arrArgs) string
	want func(a arrArgs) string
}

func arrCalls() []arrCall {
	return slices.Concat(callsOfChoices(), callsOfFits(), callsOfLooks(), callsOfBounds(), callsOfKept(), callsOfChoiceTexts())
}

func arrCallsNamed(names string) []arrCall {
	return slices.DeleteFunc(arrCalls(), func(c arrCall) bool {
		return !slices.Contains(strings.Fields(names), c.name)
	})
}

func callsOfChoices() []arrCall {
	return []arrCall{
		{"ValidCosts", func(a arrArgs) string { return fmt.Sprint(impl.ValidCosts(a.c)) }, func(a arrArgs) string {
			return fmt.Sprint(modelCosts(a.c))
		}},
		{"ValidChoice", func(a arrArgs) string { return fmt.Sprint(impl.ValidChoice(a.x)) }, func(a arrArgs) string {
			return fmt.Sprint(modelChoice(a.x))
		}},
		{"ChoicesFor", func(a arrArgs) string {
			list, c := impl.ChoicesFor(a.f, a.note)
			return answers(c, list)
		}, func(a arrArgs) string {
			if !modelFrame(a.f) || !modelNote(a.note) {
				return answers(impl.ErrInvalid, []impl.Choice{})
			}
			return answers(impl.OK, modelChoices(a.f, a.note))
		}},
		{"NoteOf", func(a arrArgs) string {
			n, c := impl.NoteOf(a.note, a.x)
			return answers(c, n.At, n.Pitch)
		}, func(a arrArgs) string {
			if !modelNote(a.note) || !modelChoice(a.x) {
				return answers(impl.ErrInvalid, 0, 0)
			}
			if a.x.Away {
				return answers(impl.ErrState, 0, 0)
			}
			return answers(impl.OK, int(a.note.At)+int(a.x.Late), int(a.note.Pitch)+12*int(a.x.Octave))
		}},
		{"CostOf", func(a arrArgs) string {
			cost, c := impl.CostOf(a.c, a.list)
			return answers(c, cost)
		}, func(a arrArgs) string {
			if !modelCosts(a.c) || !areModelChoices(a.list) {
				return answers(impl.ErrInvalid, 0)
			}
			if len(a.list) > 120 {
				return answers(impl.ErrLimit, 0)
			}
			return answers(impl.OK, modelCostOf(a.c, a.list...))
		}},
	}
}

func callsOfFits() []arrCall {
	return []arrCall{
		{"DrumFor", func(a arrArgs) string {
			d, c := impl.DrumFor(a.f, a.t, a.list)
			return answers(c, d)
		}, func(a arrArgs) string {
			if code := a.fitCode(); code != impl.OK {
				return answers(code, impl.Drum{})
			}
			m, _ := modelPins(a.f, a.t, a.list)
			return answers(impl.OK, drumOf(m.pins))
		}},
		{"FirstUnfit", func(a arrArgs) string {
			index, c := impl.FirstUnfit(a.f, a.t, a.list)
			return answers(c, index)
		}, func(a arrArgs) string {
			if code := a.countCode(); code != impl.OK {
				return answers(code, 0)
			}
			if _, bad := modelPins(a.f, a.t, a.list); bad >= 0 {
				return answers(impl.OK, bad)
			}
			return answers(impl.ErrNotFound, 0)
		}},
		{"CheckChoices", func(a arrArgs) string {
			fits, c := impl.CheckChoices(a.f, a.t, a.list)
			return answers(c, fits)
		}, func(a arrArgs) string {
			if code := a.code(impl.Costs{}, a.list...); code != impl.OK {
				return answers(code, false)
			}
			return answers(impl.OK, a.fitCode() == impl.OK)
		}},
	}
}

func callsOfLooks() []arrCall {
	return []arrCall{
		{"Greedy", func(a arrArgs) string {
			list, c := impl.Greedy(a.f, a.t, a.c)
			return answers(c, list)
		}, func(a arrArgs) string {
			if code := a.code(a.c); code != impl.OK {
				return answers(code, []impl.Choice{})
			}
			return answers(impl.OK, modelGreedy(a.f, a.t, a.c))
		}},
		{"Arrange", func(a arrArgs) string {
			list, cost, c := impl.Arrange(a.f, a.t, a.c, a.budget)
			return answers(c, list, cost)
		}, func(a arrArgs) string {
			s, code := a.searched(a.c)
			if code != impl.OK {
				return answers(code, []impl.Choice{}, 0)
			}
			return answers(impl.OK, s.best, modelCostOf(a.c, s.best...))
		}},
		{"MostKept", func(a arrArgs) string {
			kept, c := impl.MostKept(a.f, a.t, a.budget)
			return answers(c, kept)
		}, func(a arrArgs) string {
			s, code := a.searched(impl.Costs{Away: 1})
			if code != impl.OK {
				return answers(code, 0)
			}
			return answers(impl.OK, len(modelKept(s.best)))
		}},
	}
}

// modelKept are the choices that leave no note away.
func modelKept(list []impl.Choice) []impl.Choice {
	return slices.DeleteFunc(slices.Clone(list), func(x impl.Choice) bool { return x.Away })
}

func callsOfBounds() []arrCall {
	return []arrCall{
		{"LeastEach", func(a arrArgs) string {
			list, c := impl.LeastEach(a.f, a.t, a.c)
			return answers(c, list)
		}, func(a arrArgs) string {
			if code := a.code(a.c); code != impl.OK {
				return answers(code, []int64{})
			}
			return answers(impl.OK, modelLeast(a.f, a.t, a.c))
		}},
		{"BoundFrom", func(a arrArgs) string {
			bound, c := impl.BoundFrom(a.f, a.t, a.c, a.from)
			return answers(c, bound)
		}, func(a arrArgs) string {
			code := a.code(a.c)
			if code == impl.OK && (a.from < 0 || a.from > int64(len(a.t))) {
				code = impl.ErrRange
			}
			if code != impl.OK {
				return answers(code, 0)
			}
			return answers(impl.OK, sumOf(modelLeast(a.f, a.t, a.c)[a.from:]))
		}},
	}
}

func callsOfKept() []arrCall {
	return []arrCall{
		{"KeptNotes", func(a arrArgs) string {
			kept, c := impl.KeptNotes(a.f, a.t, a.list)
			return answers(c, kept)
		}, func(a arrArgs) string {
			if code := a.fitCode(); code != impl.OK {
				return answers(code, 0)
			}
			return answers(impl.OK, len(modelKept(a.list)))
		}},
		{"HeardTune", func(a arrArgs) string {
			heard, c := impl.HeardTune(a.f, a.t, a.list)
			return answers(c, heard)
		}, func(a arrArgs) string {
			if code := a.fitCode(); code != impl.OK {
				return answers(code, impl.Tune{})
			}
			set := map[spot]bool{}
			for i, x := range a.list {
				if !x.Away {
					set[spot{int64(a.t[i].At) + int64(x.Late), int64(a.t[i].Pitch) + 12*int64(x.Octave)}] = true
				}
			}
			heard, code := spotTune(set)
			return answers(code, heard)
		}},
	}
}

func callsOfChoiceTexts() []arrCall {
	return []arrCall{
		{"ChoicesText", func(a arrArgs) string { return impl.ChoicesText(a.list) }, func(a arrArgs) string { return modelChoicesText(a.list) }},
		{"ReadChoices", func(a arrArgs) string {
			list, c := impl.ReadChoices(a.text)
			return answers(c, list)
		}, func(a arrArgs) string {
			list, code := modelReadChoices(a.text)
			return answers(code, list)
		}},
	}
}

func checkArrangement(t *testing.T, c arrCall, a arrArgs) string {
	t.Helper()
	got, want := c.run(a), c.want(a)
	if got != want {
		t.Errorf("%s: %s: got %q, want %q", c.name, a, got, want)
	}
	return got
}

// TestModelArrangements asks also that each function has told a result, and each of its errors, often enough.
func TestModelArrangements(t *testing.T) {
	found := map[string]int{}
	random := rand.New(rand.NewSource(131))
	for range 4000 {
		a := randomArrangement(random, 3, 3)
		for _, c := range arrCalls() {
			first, _, _ := strings.Cut(checkArrangement(t, c, a), ";")
			found[c.name+" "+first]++
		}
	}
	for _, what := range []string{
		"ValidCosts true", "ValidChoice true", "ChoicesFor ok", "ChoicesFor invalid", "NoteOf ok", "NoteOf invalid", "NoteOf state", "CostOf ok",
		"DrumFor ok", "DrumFor range", "DrumFor state", "FirstUnfit ok", "FirstUnfit range", "FirstUnfit notfound", "CheckChoices ok",
		"Greedy ok", "Arrange ok", "Arrange range", "Arrange budget", "MostKept ok", "MostKept range", "MostKept budget", "LeastEach ok",
		"BoundFrom ok", "BoundFrom range", "KeptNotes ok", "KeptNotes range", "KeptNotes state", "HeardTune ok", "HeardTune range", "HeardTune state",
		"ReadChoices ok", "ReadChoices syntax",
	} {
		if found[what] < 40 {
			t.Errorf("the tests look at too few cases of %s: %d", what, found[what])
		}
	}
}

// TestModelArrangementFrames goes through frames, tunes and choices that are valid or not.
func TestModelArrangementFrames(t *testing.T) {
	tunes := []impl.Tune{nil, notes(0, 24, 1, 24, 1, 25), notes(0, 24, 2, 28, 7, 12, 8, 24, 10, 36), notes(3, 24, 3, 24), notes(199, 47), notes(-1, 5)}
	for i, f := range slices.Concat(validFrames(), invalidFrames()) {
		for j, u := range tunes {
			for k, c := range []impl.Costs{{}, {Away: 10, Octave: 2, Step: 1}, {Away: 1000, Octave: 1000, Step: 1000}, {Away: 1001}} {
				a := arrArgs{f: f, t: u, c: c, budget: int64(5 * i * k), from: int64((i + k) % 4), note: impl.Note{At: int16(i * j), Pitch: int8(24 + k)}}
				if modelFrame(f) && modelValid(u) {
					a.list = modelGreedy(f, u, impl.Costs{Away: 3, Step: 1})
				}
				a.x, a.text = choices("1/-1/0 x 4/0/0")[j%3], modelChoicesText(a.list)
				for _, call := range arrCalls() {
					checkArrangement(t, call, a)
				}
			}
		}
	}
}

// TestModelArrangementTunes goes through tunes that are valid or not, some of which are long, on frames that have room for all of their notes, or for few.
func TestModelArrangementTunes(t *testing.T) {
	frames := []impl.Frame{frame(96, 24, 1, 0, 1, 47, 1), frame(96, 24, 7), spread(48, 2, 2, 0, 12, 24, 36), frame(6, 9, 3, 31, 1, 5, 6)}
	for i, u := range allTunes() {
		for j, f := range frames {
			a := arrArgs{f: f, t: u, c: impl.Costs{Away: int16(i % 3), Octave: 1, Step: int16(j % 3)}, budget: int64(len(u) + i%4), from: int64(len(u) / 2)}
			for range u {
				a.list = append(a.list, impl.Choice{Away: true})
			}
			for _, call := range arrCallsNamed("CostOf DrumFor FirstUnfit CheckChoices Greedy Arrange MostKept LeastEach BoundFrom KeptNotes HeardTune ChoicesText") {
				checkArrangement(t, call, a)
			}
			if modelValid(u) {
				a.list = modelGreedy(f, u, a.c)
				for _, call := range arrCallsNamed("CostOf DrumFor FirstUnfit CheckChoices KeptNotes HeardTune ChoicesText") {
					checkArrangement(t, call, a)
				}
			}
		}
	}
}

// TestModelChoicesOfNotes goes through notes all around each frame, and through notes that cannot be in a tune.
func TestModelChoicesOfNotes(t *testing.T) {
	for _, f := range slices.Concat(arrFrames(), invalidFrames()[:8]) {
		var list []impl.Note
		for at := int16(-5); at <= f.Steps+5; at++ {
			for pitch := int8(-13); pitch <= 60; pitch++ {
				list = append(list, impl.Note{At: at, Pitch: pitch})
			}
		}
		list = append(slices.Concat(list, invalidNotes()), notes(199, 24, 198, 47, 199, 0)...)
		for i, n := range list {
			x := orderedChoices[i%len(orderedChoices)]
			for _, call := range arrCallsNamed("ChoicesFor NoteOf") {
				checkArrangement(t, call, arrArgs{f: f, note: n, x: x})
			}
		}
	}
}

// nearChoices are all choices with numbers that are limits, or beside them, and each number that there is in one place.
func nearChoices() []impl.Choice {
	var list []impl.Choice
	for _, away := range []bool{false, true} {
		for late := int8(-5); late <= 5; late++ {
			for octave := int8(-3); octave <= 3; octave++ {
				for _, track := range []int8{-2, -1, 0, 1, 2, 12, 22, 23, 24, 25, 32, 64} {
					list = append(list, impl.Choice{Away: away, Late: late, Octave: octave, Track: track})
				}
			}
		}
		for n := range 256 {
			number := int8(n - 128)
			list = append(list, impl.Choice{Away: away, Late: number}, impl.Choice{Away: away, Octave: number}, impl.Choice{Away: away, Track: number})
		}
	}
	return list
}

// TestModelNearChoices puts each choice in the place of one of those of an arrangement.
func TestModelNearChoices(t *testing.T) {
	f, u := spread(9, 1, 2, 24, 12, 36), notes(0, 24, 3, 24, 8, 24)
	for _, x := range nearChoices() {
		a := arrArgs{f: f, t: u, c: impl.Costs{Away: 100, Octave: 10, Step: 1}, x: x}
		for _, a.note = range []impl.Note{{At: 0, Pitch: 0}, {At: 4, Pitch: 24}, {At: 199, Pitch: 47}} {
			checkArrangement(t, arrCallsNamed("NoteOf")[0], a)
		}
		for i := range u {
			a.list = choices("0/0/0 x 0/0/0")
			a.list[i] = x
			a.text = rawChoices(a.list)
			for _, call := range arrCallsNamed("ValidChoice CostOf DrumFor FirstUnfit CheckChoices KeptNotes HeardTune ChoicesText ReadChoices") {
				checkArrangement(t, call, a)
			}
		}
	}
}

// TestModelAllCosts goes through costs that are limits, or beside them, or far away.
func TestModelAllCosts(t *testing.T) {
	calls := arrCallsNamed("ValidCosts CostOf Greedy Arrange LeastEach BoundFrom")
	a := arrArgs{f: frame(6, 24, 3, 12, 2), t: notes(0, 24, 1, 24, 2, 36, 7, 24), list: choices("0/0/0 x 1/-1/1 -3/0/0"), budget: impl.MaxLooks, from: 1}
	numbers := []int16{math.MinInt16, -1000, -256, -1, 0, 1, 2, 3, 255, 256, 999, 1000, 1001, 1 << 10, math.MaxInt16}
	for _, away := range numbers {
		for _, octave := range numbers {
			for _, step := range numbers {
				a.c = impl.Costs{Away: away, Octave: octave, Step: step}
				for _, call := range calls {
					checkArrangement(t, call, a)
				}
			}
		}
	}
}

// TestModelLookNumbers goes through budgets and indices that are limits, or far away.
func TestModelLookNumbers(t *testing.T) {
	calls := arrCallsNamed("Arrange MostKept BoundFrom")
	long := frame(96, 24, 1)
	for _, u := range []impl.Tune{nil, notes(0, 24), notes(0, 24, 1, 24, 2, 36), row(90, 0, 24, 1, 0), block(120, 0)} {
		for _, c := range []impl.Costs{{}, {Away: 10, Octave: 2, Step: 1}} {
			for _, n := range lookNumbers() {
				for _, call := range calls {
					checkArrangement(t, call, arrArgs{f: long, t: u, c: c, budget: n, from: n})
				}
			}
		}
	}
}

// TestModelLooks asks with just as many looks as are needed, with one less, and with all.
func TestModelLooks(t *testing.T) {
	arrange, most, needed := arrCallsNamed("Arrange")[0], arrCallsNamed("MostKept")[0], map[int]int{}
	random := rand.New(rand.NewSource(132))
	for range 1500 {
		a := randomArrangement(random, 3, 9)
		for _, call := range []arrCall{arrange, most} {
			c := a.c
			if call.name == "MostKept" {
				c = impl.Costs{Away: 1}
			}
			// The model takes long where there are many looks.
			s := arrSearchOf(a.f, a.t, c, 600)
			if s.code() != impl.OK {
				continue
			}
			for _, a.budget = range []int64{0, s.looks - 1, s.looks, s.looks + 1, impl.MaxLooks} {
				got := checkArrangement(t, call, a)
				enough := a.budget >= s.looks
				wantEqual(t, strings.HasPrefix(got, "ok"), enough, call.name, "with", a.budget, "of", s.looks, "looks", a)
			}
			needed[bits.Len64(uint64(s.looks)-uint64(len(a.t)))]++
		}
	}
	for more := range 9 {
		if needed[more] < 10 {
			t.Errorf("the tests look at too few searches with many more looks than notes: %v", needed)
		}
	}
}

// eachArrangement calls a function with all arrangements that fit, in the order in which they are found if none is left out.
func eachArrangement(f impl.Frame, t impl.Tune, c impl.Costs, call func(list []impl.Choice)) {
	var lists [][]impl.Choice
	for _, n := range t {
		lists = append(lists, byCost(f, n, c))
	}
	var goOn func(begun []impl.Choice)
	goOn = func(begun []impl.Choice) {
		if len(begun) < len(t) {
			for _, x := range lists[len(begun)] {
				goOn(append(slices.Clone(begun), x))
			}
			return
		}
		if _, bad := modelPins(f, t, begun); bad == -1 {
			call(begun)
		}
	}
	goOn(nil)
}

// countArrangements returns how many arrangements there are, whether they fit or not.
func countArrangements(f impl.Frame, t impl.Tune) int {
	count := 1
	for _, n := range t {
		count *= len(modelChoices(f, n))
	}
	return count
}

// TestModelSmallTunes goes through all tunes of small frames, and all of their arrangements.
func TestModelSmallTunes(t *testing.T) {
	frames := []impl.Frame{frame(2, 24, 1), frame(2, 24, 2), frame(2, 24, 2, 24, 1), frame(2, 24, 2, 36, 2), frame(3, 24, 2), frame(3, 24, 3, 12, 2), frame(4, 24, 3)}
	prices := []impl.Costs{{}, {Away: 1}, {Away: 10, Octave: 2, Step: 1}, {Away: 1, Octave: 1, Step: 1}, {Away: 3, Octave: 5, Step: 0}, {Away: 2, Octave: 0, Step: 1}}
	for _, f := range frames {
		wider := f
		wider.Steps++
		for i, u := range tunesIn(wider, 24, 36) {
			if len(u) > 3 || countArrangements(f, u) > 3000 {
				continue
			}
			checkAllArrangements(t, arrArgs{f: f, t: u, c: prices[i%len(prices)]})
		}
	}
}

// checkAllArrangements holds Arrange, MostKept, Greedy and the bounds against all arrangements that there are.
func checkAllArrangements(t *testing.T, a arrArgs) {
	t.Helper()
	var first []impl.Choice
	least, most := int64(math.MaxInt64), 0
	eachArrangement(a.f, a.t, a.c, func(list []impl.Choice) {
		if cost := modelCostOf(a.c, list...); cost < least {
			first, least = list, cost
		}
		most = max(most, len(modelKept(list)))
	})
	best, cost, code := impl.Arrange(a.f, a.t, a.c, impl.MaxLooks)
	wantEqual(t, answers(code, best, cost), answers(impl.OK, first, least), "the first one that costs least", a)
	kept, code := impl.MostKept(a.f, a.t, impl.MaxLooks)
	wantEqual(t, answers(code, kept), answers(impl.OK, most), "the most that can be kept", a)
	bound, one := impl.BoundFrom(a.f, a.t, a.c, 0)
	each, two := impl.LeastEach(a.f, a.t, a.c)
	wantEqual(t, bound <= least && bound == sumOf(each), true, "no arrangement costs less than the bound", bound, each, one, two, a)
	greedy, code := impl.Greedy(a.f, a.t, a.c)
	_, bad := modelPins(a.f, a.t, greedy)
	wantEqual(t, code == impl.OK && bad == -1 && modelCostOf(a.c, greedy...) >= least, true, "the greedy one fits, and costs no less", a)
}

// TestModelAllArrangements does so for random tunes.
func TestModelAllArrangements(t *testing.T) {
	random, checked, ties := rand.New(rand.NewSource(133)), 0, 0
	for checked < 600 {
		a := randomArrangement(random, 3, 4)
		if len(a.t) < 2 || countArrangements(a.f, a.t) > 8000 {
			continue
		}
		checked++
		checkAllArrangements(t, a)
		costs := map[int64]int{}
		eachArrangement(a.f, a.t, a.c, func(list []impl.Choice) { costs[modelCostOf(a.c, list...)]++ })
		_, cost, _ := impl.Arrange(a.f, a.t, a.c, impl.MaxLooks)
		if costs[cost] > 1 {
			ties++
		}
	}
	if ties < 100 {
		t.Errorf("the tests look at too few tunes with several best arrangements: %d", ties)
	}
}

// TestModelChoicesTexts changes texts by a character or a blank.
func TestModelChoicesTexts(t *testing.T) {
	read := arrCallsNamed("ReadChoices")[0]
	for _, text := range []string{"", "x", "0/0/0", "-3/-1/23", "3/1/10", "x x", "2/0/0 x 0/-1/1", "x 0/0/0 -1/0/20"} {
		near := append(nearTexts(text), text+" ", " "+text, text+"\n", text+text, text+" "+text, strings.ReplaceAll(text, " ", "  "), strings.ReplaceAll(text, "/", "//"), strings.ReplaceAll(text, "/", ":"), strings.ReplaceAll(text, "0", "-0"), strings.ReplaceAll(text, "0", "+0"), strings.ReplaceAll(text, "0", "00"), strings.ReplaceAll(text, "x", "X"), strings.ReplaceAll(text, "/", " / "))
		for _, one := range near {
			checkArrangement(t, read, arrArgs{text: one})
		}
	}
	for text := range choiceTexts {
		checkArrangement(t, read, arrArgs{text: text})
	}
}
