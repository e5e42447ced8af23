package tests

import (
	"cmp"
	"fmt"
	"math/rand"
	"regexp"
	"slices"
	"strconv"
	"strings"
	"testing"

	"loop.example/g01311/impl"
)

// This file tells chapter 6 once more, by turning the drum turn by turn, and holds the program against it.

// wornModel has what pins and hammers have made, pin by pin and hammer by hammer.
type wornModel struct {
	places  []place
	turns   []int64
	strokes []int64
}

// modelWear asks for each place of a frame in its order whether it is that of the next pin.
func modelWear(f impl.Frame, w impl.Wear) bool {
	if !modelFrame(f) || len(w.Strokes) != len(f.Hammers) || len(w.Pins) > 96*24 {
		return false
	}
	next := 0
	for step := range int8(f.Steps) {
		for track := range int8(len(f.Hammers)) {
			if next < len(w.Pins) && w.Pins[next].Step == step && w.Pins[next].Track == track {
				next++
			}
		}
	}
	for _, p := range w.Pins {
		if p.Turns < 0 || p.Turns > 1000000 {
			return false
		}
	}
	for _, n := range w.Strokes {
		if n < 0 || n > 1000000 {
			return false
		}
	}
	return next == len(w.Pins)
}

func modelLives(v impl.Lives) bool {
	return v.Pin > 0 && v.Pin <= 1000000 && v.Hammer > 0 && v.Hammer <= 1000000
}

func wornOf(w impl.Wear) wornModel {
	m := wornModel{strokes: slices.Clone(w.Strokes)}
	for _, p := range w.Pins {
		m.places = append(m.places, place{int64(p.Step), int64(p.Track)})
		m.turns = append(m.turns, p.Turns)
	}
	return m
}

// wear brings the pins into their order.
func (m wornModel) wear() impl.Wear {
	turns, set := map[place]int64{}, map[place]bool{}
	for i, p := range m.places {
		turns[p], set[p] = m.turns[i], true
	}
	w := impl.Wear{Strokes: m.strokes}
	for _, p := range ordered(set) {
		w.Pins = append(w.Pins, impl.WornPin{Step: int8(p.step), Track: int8(p.track), Turns: turns[p]})
	}
	return w
}

func (m wornModel) turn() {
	for i, p := range m.places {
		m.turns[i]++
		m.strokes[p.track]++
	}
}

// greatest returns the greatest one of some numbers, 0 if there are none.
func greatest(list []int64) int64 {
	var most int64
	for _, n := range list {
		most = max(most, n)
	}
	return most
}

func (m wornModel) isOut(v impl.Lives) bool {
	return greatest(m.turns) > v.Pin || greatest(m.strokes) > v.Hammer
}

// turned turns so many times, or until a number is too great.
func (m wornModel) turned(turns int64) int64 {
	if turns < 0 || turns > 1000000 {
		return impl.ErrRange
	}
	// Without pins there is nothing that a turn could change.
	for done := int64(0); done < turns && len(m.places) > 0; done++ {
		m.turn()
		if m.isOut(impl.Lives{Pin: 1000000, Hammer: 1000000}) {
			return impl.ErrLimit
		}
	}
	return impl.OK
}

// runOut turns until something is worn out, and returns how many turns came before, 1000000 at most.
func (m wornModel) runOut(v impl.Lives) int64 {
	for done := range int64(1000000) {
		if len(m.places) == 0 {
			break
		}
		m.turn()
		if m.isOut(v) {
			return done
		}
	}
	return 1000000
}

// out returns what is worn out.
func (m wornModel) out(v impl.Lives) ([]impl.WornPin, []int64) {
	pins, tracks := []impl.WornPin{}, []int64{}
	for _, p := range m.wear().Pins {
		if p.Turns > v.Pin {
			pins = append(pins, p)
		}
	}
	for track, n := range m.strokes {
		if n > v.Hammer {
			tracks = append(tracks, int64(track))
		}
	}
	return pins, tracks
}

// index returns where a pin is told, -1 if there is none at a place.
func (m wornModel) index(p place) int { return slices.Index(m.places, p) }

// act does an act, as the document tells it of each function.
func (m *wornModel) act(a impl.Act, f impl.Frame) int64 {
	steps, tracks := int64(f.Steps), int64(len(f.Hammers))
	noPlace := func(step, track int64) bool { return step < 0 || step >= steps || track < 0 || track >= tracks }
	switch a.Kind {
	case 0:
		return m.turned(a.A)
	case 1:
		if noPlace(0, a.A) {
			return impl.ErrRange
		}
		m.strokes[a.A] = 0
		return impl.OK
	case 2:
		if noPlace(a.A, a.B) {
			return impl.ErrRange
		}
		if i := m.index(place{a.A, a.B}); i >= 0 {
			m.turns[i] = 0
			return impl.OK
		}
		m.places, m.turns = append(m.places, place{a.A, a.B}), append(m.turns, 0)
		return impl.OK
	case 3:
		if noPlace(a.A, a.B) || noPlace(a.C, a.D) {
			return impl.ErrRange
		}
		i := m.index(place{a.A, a.B})
		if i == -1 || m.index(place{a.C, a.D}) >= 0 {
			return impl.ErrState
		}
		m.places[i] = place{a.C, a.D}
		return impl.OK
	}
	return impl.ErrRange
}

// log does acts, and returns index and code of the first one that has an error.
func (m *wornModel) log(a wearArgs) (int, int64) {
	for i, one := range a.acts {
		if code := m.act(one, a.f); code != impl.OK {
			return i, code
		}
		if m.isOut(a.v) {
			return i, impl.ErrProof
		}
	}
	return -1, impl.OK
}

// renewed makes pins and hammers new just before the turn in which each would be worn out, and returns how many these were.
func (m wornModel) renewed(v impl.Lives, turns int64) (int64, int64, int64) {
	makes := make([]int64, len(m.strokes))
	for _, p := range m.places {
		makes[p.track]++
	}
	if m.isOut(v) || slices.Max(makes) > v.Hammer {
		return 0, 0, impl.ErrState
	}
	var pins, hammers int64
	for done := int64(0); done < turns && len(m.places) > 0; done++ {
		for i, made := range m.turns {
			if made+1 > v.Pin {
				m.turns[i] = 0
				pins++
			}
		}
		for track, made := range m.strokes {
			if made+makes[track] > v.Hammer {
				m.strokes[track] = 0
				hammers++
			}
		}
		m.turn()
	}
	return pins, hammers, impl.OK
}

// code tells ErrInvalid where a frame, a wear for it or lives are not valid.
func (a wearArgs) code(lives ...impl.Lives) int64 {
	if !modelWear(a.f, a.w) || slices.ContainsFunc(lives, func(v impl.Lives) bool { return !modelLives(v) }) {
		return impl.ErrInvalid
	}
	return impl.OK
}

// stateCode is code, or ErrState, behind it, if something is worn out.
func (a wearArgs) stateCode() int64 {
	code := a.code(a.v)
	if code == impl.OK && wornOf(a.w).isOut(a.v) {
		return impl.ErrState
	}
	return code
}

// actsCode is code, or ErrLimit, behind it, if there are too many acts.
func (a wearArgs) actsCode() int64 {
	code := a.code(a.v)
	if code == impl.OK && len(a.acts) > 60 {
		return impl.ErrLimit
	}
	return code
}

// done tells the wear behind an act, or its error.
func (a wearArgs) done(act impl.Act) string {
	code := a.code()
	if code != impl.OK {
		return answers(code, impl.Wear{})
	}
	m := wornOf(a.w)
	if code = m.act(act, a.f); code != impl.OK {
		return answers(code, impl.Wear{})
	}
	return answers(code, m.wear())
}

// bestChoice sorts the choices without an error by their prices, and then by their indices.
func (a wearArgs) bestChoice() string {
	if code := a.code(a.choices...); code != impl.OK {
		return answers(code, 0, 0)
	}
	for _, price := range []int64{a.pinPrice, a.hammerPrice} {
		if price < 0 || price > 1000 {
			return answers(impl.ErrRange, 0, 0)
		}
	}
	if a.turns < 0 || a.turns > 1000000 || len(a.choices) == 0 || len(a.choices) > 20 {
		return answers(impl.ErrRange, 0, 0)
	}
	var offers [][2]int64
	for i, v := range a.choices {
		if pins, hammers, code := wornOf(a.w).renewed(v, a.turns); code == impl.OK {
			offers = append(offers, [2]int64{(pins*a.pinPrice + hammers*a.hammerPrice) * int64(i+1), int64(i)})
		}
	}
	if len(offers) == 0 {
		return answers(impl.ErrNotFound, 0, 0)
	}
	least := slices.MinFunc(offers, func(a, b [2]int64) int { return cmp.Or(cmp.Compare(a[0], b[0]), cmp.Compare(a[1], b[1])) })
	return answers(impl.OK, least[1], least[0])
}

// usedBy tells how many numbers each kind of acts uses.
var usedBy = []int{1, 1, 2, 4}

func modelActsText(list []impl.Act) string {
	if len(list) > 60 {
		return ""
	}
	text := ""
	for _, a := range list {
		if a.Kind < 0 || a.Kind > 3 {
			return ""
		}
		text += []string{"turn", "hammer", "pin", "move"}[a.Kind]
		for i, n := range []int64{a.A, a.B, a.C, a.D} {
			if n < 0 || n > 1000000 || i >= usedBy[a.Kind] && n != 0 {
				return ""
			}
			if i < usedBy[a.Kind] {
				text += fmt.Sprint(" ", n)
			}
		}
		text += "\n"
	}
	return text
}

var actLine = regexp.MustCompile(`^(?:turn N|hammer N|pin N N|move N N N N)$`)

var numberWord = regexp.MustCompile(`(?:^| )(0|[1-9][0-9]*)\b`)

func modelReadActs(text string) ([]impl.Act, int64) {
	list := []impl.Act{}
	if text == "" {
		return list, impl.OK
	}
	lines := strings.Split(text, "\n")
	if last := len(lines) - 1; lines[last] != "" || last > 60 {
		return nil, impl.ErrSyntax
	}
	for _, line := range lines[:len(lines)-1] {
		if !actLine.MatchString(numberWord.ReplaceAllString(line, " N")) {
			return nil, impl.ErrSyntax
		}
		words := strings.Fields(line)
		var numbers [4]int64
		for i, word := range words[1:] {
			n, err := strconv.ParseInt(word, 10, 64)
			if err != nil || n > 1000000 {
				return nil, impl.ErrSyntax
			}
			numbers[i] = n
		}
		kind := map[string]int8{"turn": 0, "hammer": 1, "pin": 2, "move": 3}[words[0]]
		list = append(list, impl.Act{Kind: kind, A: numbers[0], B: numbers[1], C: numbers[2], D: numbers[3]})
	}
	return list, impl.OK
}

// wearCall is a function of chapter 6: what the program returns, and what the model does.
type wearCall struct {
	name string
	run  func(a wearArgs) string
	want func(a wearArgs) string
}

func wearCalls() []wearCall {
	return slices.Concat(callsOfWears(), callsOfLives(), callsOfActs(), callsOfParts(), callsOfLogs())
}

func wearCallsNamed(names string) []wearCall {
	return slices.DeleteFunc(wearCalls(), func(c wearCall) bool {
		return !slices.Contains(strings.Fields(names), c.name)
	})
}

func callsOfWears() []wearCall {
	return []wearCall{
		{"ValidLives", func(a wearArgs) string { return fmt.Sprint(impl.ValidLives(a.v)) }, func(a wearArgs) string {
			return fmt.Sprint(modelLives(a.v))
		}},
		{"FreshWear", func(a wearArgs) string {
			w, c := impl.FreshWear(a.f, a.d)
			return answers(c, w)
		}, func(a wearArgs) string {
			if !modelDrum(a.f, a.d) {
				return answers(impl.ErrInvalid, impl.Wear{})
			}
			m := wornModel{strokes: make([]int64, len(a.f.Hammers))}
			m.places = ordered(placesOf(a.d))
			m.turns = make([]int64, len(m.places))
			return answers(impl.OK, m.wear())
		}},
		{"ValidWear", func(a wearArgs) string { return fmt.Sprint(impl.ValidWear(a.f, a.w)) }, func(a wearArgs) string {
			return fmt.Sprint(modelWear(a.f, a.w))
		}},
		{"SameWear", func(a wearArgs) string { return fmt.Sprint(impl.SameWear(a.w, a.x)) }, func(a wearArgs) string {
			return fmt.Sprint(rawWear(a.w) == rawWear(a.x))
		}},
		{"DrumOfWear", func(a wearArgs) string {
			d, c := impl.DrumOfWear(a.f, a.w)
			return answers(c, d)
		}, func(a wearArgs) string {
			if code := a.code(); code != impl.OK {
				return answers(code, impl.Drum{})
			}
			set := map[place]bool{}
			for _, p := range wornOf(a.w).places {
				set[p] = true
			}
			return answers(impl.OK, drumOf(set))
		}},
		{"TurnWear", func(a wearArgs) string {
			w, c := impl.TurnWear(a.f, a.w, a.turns)
			return answers(c, w)
		}, func(a wearArgs) string { return a.done(impl.Act{Kind: 0, A: a.turns}) }},
	}
}

func callsOfLives() []wearCall {
	return []wearCall{
		{"TurnsLeft", func(a wearArgs) string {
			turns, c := impl.TurnsLeft(a.f, a.w, a.v)
			return answers(c, turns)
		}, func(a wearArgs) string {
			if code := a.stateCode(); code != impl.OK {
				return answers(code, 0)
			}
			return answers(impl.OK, wornOf(a.w).runOut(a.v))
		}},
		{"FirstWorn", func(a wearArgs) string {
			turn, step, track, c := impl.FirstWorn(a.f, a.w, a.v)
			return answers(c, turn, step, track)
		}, func(a wearArgs) string {
			if code := a.stateCode(); code != impl.OK {
				return answers(code, 0, 0, 0)
			}
			m := wornOf(a.w)
			turn := m.runOut(a.v) + 1
			if turn == 1000001 {
				return answers(impl.ErrNotFound, 0, 0, 0)
			}
			pins, tracks := m.out(a.v)
			if len(pins) > 0 {
				return answers(impl.OK, turn, pins[0].Step, pins[0].Track)
			}
			return answers(impl.OK, turn, -1, tracks[0])
		}},
		{"WornOut", func(a wearArgs) string {
			pins, tracks, c := impl.WornOut(a.f, a.w, a.v)
			return answers(c, pins, tracks)
		}, func(a wearArgs) string {
			if code := a.code(a.v); code != impl.OK {
				return answers(code, []impl.WornPin{}, []int64{})
			}
			pins, tracks := wornOf(a.w).out(a.v)
			return answers(impl.OK, pins, tracks)
		}},
	}
}

func callsOfActs() []wearCall {
	return []wearCall{
		{"NewHammer", func(a wearArgs) string {
			w, c := impl.NewHammer(a.f, a.w, a.track)
			return answers(c, w)
		}, func(a wearArgs) string { return a.done(impl.Act{Kind: 1, A: a.track}) }},
		{"NewPin", func(a wearArgs) string {
			w, c := impl.NewPin(a.f, a.w, a.step, a.track)
			return answers(c, w)
		}, func(a wearArgs) string { return a.done(impl.Act{Kind: 2, A: a.step, B: a.track}) }},
		{"MovePin", func(a wearArgs) string {
			w, c := impl.MovePin(a.f, a.w, a.step, a.track, a.toStep, a.toTrack)
			return answers(c, w)
		}, func(a wearArgs) string {
			return a.done(impl.Act{Kind: 3, A: a.step, B: a.track, C: a.toStep, D: a.toTrack})
		}},
		{"DoWearAct", func(a wearArgs) string {
			w, c := impl.DoWearAct(a.f, a.w, a.act)
			return answers(c, w)
		}, func(a wearArgs) string { return a.done(a.act) }},
		{"DoWearActs", func(a wearArgs) string {
			w, c := impl.DoWearActs(a.f, a.w, a.v, a.acts)
			return answers(c, w)
		}, func(a wearArgs) string {
			code, m := a.actsCode(), wornOf(a.w)
			if code == impl.OK {
				_, code = m.log(a)
			}
			if code != impl.OK {
				return answers(code, impl.Wear{})
			}
			return answers(code, m.wear())
		}},
		{"FirstBreak", func(a wearArgs) string {
			index, c := impl.FirstBreak(a.f, a.w, a.v, a.acts)
			return answers(c, index)
		}, func(a wearArgs) string {
			code, m := a.actsCode(), wornOf(a.w)
			if code != impl.OK {
				return answers(code, 0)
			}
			if index, _ := m.log(a); index >= 0 {
				return answers(impl.OK, index)
			}
			return answers(impl.ErrNotFound, 0)
		}},
	}
}

func callsOfParts() []wearCall {
	return []wearCall{
		{"PartsFor", func(a wearArgs) string {
			pins, hammers, c := impl.PartsFor(a.f, a.w, a.v, a.turns)
			return answers(c, pins, hammers)
		}, func(a wearArgs) string {
			code := a.code(a.v)
			if code == impl.OK && (a.turns < 0 || a.turns > 1000000) {
				code = impl.ErrRange
			}
			if code != impl.OK {
				return answers(code, 0, 0)
			}
			pins, hammers, code := wornOf(a.w).renewed(a.v, a.turns)
			return answers(code, pins, hammers)
		}},
		{"CheapestLives", func(a wearArgs) string {
			index, price, c := impl.CheapestLives(a.f, a.w, a.pinPrice, a.hammerPrice, a.turns, a.choices)
			return answers(c, index, price)
		}, wearArgs.bestChoice},
	}
}

func callsOfLogs() []wearCall {
	return []wearCall{
		{"ActsText", func(a wearArgs) string { return impl.ActsText(a.acts) }, func(a wearArgs) string { return modelActsText(a.acts) }},
		{"ReadActs", func(a wearArgs) string {
			list, c := impl.ReadActs(a.text)
			return answers(c, list)
		}, func(a wearArgs) string {
			list, code := modelReadActs(a.text)
			return answers(code, list)
		}},
	}
}

func checkWear(t *testing.T, c wearCall, a wearArgs) string {
	t.Helper()
	got, want := c.run(a), c.want(a)
	if got != want {
		t.Errorf("%s: %s: got %q, want %q", c.name, a, got, want)
	}
	return got
}

// TestModelWears asks also that each function has told a result, and each of its errors, often enough.
func TestModelWears(t *testing.T) {
	found := map[string]int{}
	random := rand.New(rand.NewSource(111))
	for range 4000 {
		a := randomWear(random)
		for _, c := range wearCalls() {
			first, _, _ := strings.Cut(checkWear(t, c, a), ";")
			found[c.name+" "+first]++
		}
	}
	for _, what := range []string{
		"FreshWear ok", "ValidWear true", "SameWear true", "SameWear false", "DrumOfWear ok", "TurnWear ok", "TurnWear range", "TurnWear limit",
		"TurnsLeft ok", "TurnsLeft state", "FirstWorn ok", "FirstWorn state", "FirstWorn notfound", "WornOut ok",
		"NewHammer ok", "NewHammer range", "NewPin ok", "NewPin range", "MovePin ok", "MovePin range", "MovePin state",
		"DoWearAct ok", "DoWearAct range", "DoWearAct state", "DoWearActs ok", "DoWearActs range", "DoWearActs state", "DoWearActs limit", "DoWearActs proof",
		"FirstBreak ok", "FirstBreak notfound", "FirstBreak limit", "PartsFor ok", "PartsFor range", "PartsFor state",
		"CheapestLives ok", "CheapestLives range", "CheapestLives notfound", "ReadActs ok", "ReadActs syntax",
	} {
		if found[what] < 40 {
			t.Errorf("the tests look at too few cases of %s: %d", what, found[what])
		}
	}
}

// TestModelWearFrames goes through frames, drums and wears that are valid or not.
func TestModelWearFrames(t *testing.T) {
	eight := frame(8, 24, 3)
	for i, f := range slices.Concat(chimeFrames(), invalidFrames()) {
		drums, wears := []impl.Drum{{0: 1}, {95: 1}}, slices.Concat(wearsFor(eight), invalidWearsFor(eight))
		if modelFrame(f) {
			drums = slices.Concat(drums, drumsFor(f), invalidDrumsFor(f))
			wears = slices.Concat(wears, wearsFor(f), invalidWearsFor(f))
		}
		for j, w := range wears {
			a := wearArgs{f: f, d: drums[j%len(drums)], w: w, x: wears[(j+i)%len(wears)]}
			// The model takes long where many pins turn until they have made a million turns.
			m := wornOf(w)
			a.v = impl.Lives{Pin: min(greatest(m.turns)+5, 1000000), Hammer: min(greatest(m.strokes)+300, 1000000)}
			a.turns, a.track, a.toStep = int64(j%3), int64(i%3), int64(j%7)
			a.act = impl.Act{Kind: int8(j % 4), A: int64(j % 2)}
			a.acts = acts("turn 0, pin 0 0, hammer 0, turn 1")[:j%5]
			a.choices = []impl.Lives{{Pin: 7, Hammer: 500}, {Pin: 999999, Hammer: 1000000}}
			for _, c := range wearCalls() {
				checkWear(t, c, a)
			}
		}
	}
}

// TestModelWearDrums makes wears of all drums that are valid or not.
func TestModelWearDrums(t *testing.T) {
	calls := wearCallsNamed("FreshWear")
	for _, f := range slices.Concat(validFrames(), invalidFrames()) {
		drums := []impl.Drum{{}, {0: 1}, {95: 1}}
		if modelFrame(f) {
			drums = slices.Concat(drums, drumsFor(f), invalidDrumsFor(f))
		}
		for _, d := range drums {
			checkWear(t, calls[0], wearArgs{f: f, d: d})
		}
	}
}

// TestModelWearNumbers goes through numbers that are limits, or far away.
func TestModelWearNumbers(t *testing.T) {
	calls := wearCallsNamed("TurnWear NewHammer NewPin MovePin DoWearAct DoWearActs FirstBreak PartsFor CheapestLives ActsText")
	two := frame(8, 24, 3, 24, 2)
	for i, w := range []impl.Wear{worn("[0 0]"), worn("0/0:0 [0 0]"), worn("0/0:0 7/0:3 7/1:1 [3 999990]"), worn("7/1:1000000 [1000000 1000000]")} {
		for _, n := range wearNumbers() {
			for place := range 5 {
				a := wearArgs{f: two, w: w, v: impl.Lives{Pin: 1000000, Hammer: 999999}, step: 7, track: 1, toStep: 6, choices: []impl.Lives{{Pin: 900000, Hammer: 950000}, {Pin: 1, Hammer: 2}}}
				numbers := []*int64{&a.turns, &a.track, &a.step, &a.toTrack, &a.toStep}
				*numbers[place] = n
				a.pinPrice, a.hammerPrice = []int64{3, n, 0}[(i+place)%3], []int64{5, 7, n}[(i+place)%3]
				for kind := range int8(5) {
					a.act = impl.Act{Kind: kind, A: a.step, B: a.track, C: a.toStep, D: a.toTrack}
					if kind < 2 {
						a.act.A = n
					}
					a.acts = []impl.Act{a.act}
					for _, c := range calls {
						checkWear(t, c, a)
					}
				}
			}
		}
	}
}

// TestModelActNumbers goes through kinds and numbers of acts that are limits, or far away.
func TestModelActNumbers(t *testing.T) {
	calls := wearCallsNamed("DoWearAct DoWearActs FirstBreak ActsText ReadActs")
	a := wearArgs{f: frame(8, 24, 3, 24, 2), w: worn("0/0:0 7/0:3 7/1:1 [3 9]"), v: impl.Lives{Pin: 5, Hammer: 12}}
	for _, kind := range []int8{-128, -4, -1, 0, 1, 2, 3, 4, 5, 64, 127} {
		for place := range 4 {
			for _, n := range []int64{-1 << 63, -1 << 32, -1, 0, 1, 2, 3, 7, 8, 256, 999999, 1000000, 1000001, 1 << 32, 1<<63 - 1} {
				if kind == 0 && place == 0 && n > 8 && n <= 1000000 {
					continue
				}
				var numbers [4]int64
				numbers[place] = n
				a.act = impl.Act{Kind: kind, A: numbers[0], B: numbers[1], C: numbers[2], D: numbers[3]}
				for _, list := range [][]impl.Act{{a.act}, {{}, a.act}, {a.act, a.act}, {{Kind: 2}, a.act, {Kind: 1}}} {
					a.acts = list
					a.text = modelActsText(list)
					for _, c := range calls {
						checkWear(t, c, a)
					}
				}
			}
		}
	}
}

// TestModelLives goes through lives that are limits, or far away, with few pins that turn long.
func TestModelLives(t *testing.T) {
	calls := wearCallsNamed("ValidLives TurnsLeft FirstWorn WornOut DoWearActs FirstBreak PartsFor CheapestLives")
	two := frame(8, 24, 3, 24, 2)
	for _, w := range []impl.Wear{worn("[0 7]"), worn("3/1:0 [0 0]"), worn("0/0:2 7/0:3 7/1:1 [3 9]"), worn("7/1:1000000 [1000000 1000000]")} {
		for _, n := range wearNumbers() {
			for i, v := range []impl.Lives{{Pin: n, Hammer: 999}, {Pin: 999, Hammer: n}, {Pin: n, Hammer: n}} {
				a := wearArgs{f: two, w: w, v: v, turns: 100, pinPrice: 2, hammerPrice: 3, acts: acts("turn 0, turn 1, hammer 0"), choices: []impl.Lives{{Pin: 5, Hammer: 5}, {Pin: 5, Hammer: 6}, {Pin: 9, Hammer: 9}}}
				a.choices[i] = v
				for _, c := range calls {
					checkWear(t, c, a)
				}
			}
		}
	}
}

// TestModelSmallWears goes through all wears of small drums with small numbers, and small lives.
func TestModelSmallWears(t *testing.T) {
	calls := wearCallsNamed("TurnsLeft FirstWorn WornOut PartsFor")
	for _, f := range []impl.Frame{frame(2, 24, 1), frame(2, 24, 1, 24, 2)} {
		for _, d := range allDrums(f) {
			for _, w := range allWears(f, d, 3) {
				for number := range int64(20) {
					a := wearArgs{f: f, w: w, v: impl.Lives{Pin: 1 + number%4, Hammer: 1 + number/4}, turns: (number * 7) % 13}
					for _, c := range calls {
						checkWear(t, c, a)
					}
				}
			}
		}
	}
}

// allWears returns all wears of a drum with numbers less than a limit.
func allWears(f impl.Frame, d impl.Drum, limit int64) []impl.Wear {
	places, all := ordered(placesOf(d)), int64(1)
	for range len(places) + len(f.Hammers) {
		all *= limit
	}
	var list []impl.Wear
	for number := range all {
		w, rest := impl.Wear{}, number
		for _, p := range places {
			w.Pins = append(w.Pins, impl.WornPin{Step: int8(p.step), Track: int8(p.track), Turns: rest % limit})
			rest /= limit
		}
		for range f.Hammers {
			w.Strokes = append(w.Strokes, rest%limit)
			rest /= limit
		}
		list = append(list, w)
	}
	return list
}

// TestModelChoices goes through choices that are equal, or have errors, up to more than there may be.
func TestModelChoices(t *testing.T) {
	call, found := wearCallsNamed("CheapestLives")[0], map[string]int{}
	random := rand.New(rand.NewSource(112))
	for range 3000 {
		a := randomWear(random)
		a.turns = int64(random.Intn(30))
		a.choices = nil
		for range random.Intn(23) {
			v := randomLives(random)
			if len(a.choices) > 0 && random.Intn(3) == 0 {
				v = a.choices[random.Intn(len(a.choices))]
			}
			if random.Intn(200) == 0 {
				v.Pin = 0
			}
			a.choices = append(a.choices, v)
		}
		first, _, _ := strings.Cut(strings.TrimPrefix(checkWear(t, call, a), "ok; "), ";")
		found[first]++
	}
	for _, what := range []string{"0", "1", "2", "3", "range", "invalid", "notfound"} {
		if found[what] < 40 {
			t.Errorf("the tests look at too few cases of %s: %d", what, found[what])
		}
	}
}

// TestModelManyActs does many acts, so that things are worn out late, if at all.
func TestModelManyActs(t *testing.T) {
	calls, found := wearCallsNamed("DoWearActs FirstBreak ActsText ReadActs"), map[string]int{}
	random := rand.New(rand.NewSource(113))
	for i := range 2000 {
		a := randomWear(random)
		a.v = impl.Lives{Pin: int64(20 + i%50), Hammer: int64(20 + i%200)}
		a.acts = nil
		for range random.Intn(63) {
			one := randomAct(random, a.f, a.w, 1)
			if one.Kind == impl.AcMove && random.Intn(4) > 0 {
				one = impl.Act{Kind: impl.AcHammer}
			}
			a.acts = append(a.acts, one)
		}
		a.text = modelActsText(a.acts)
		for _, c := range calls {
			first, _, _ := strings.Cut(checkWear(t, c, a), ";")
			found[c.name+" "+first]++
		}
	}
	for _, what := range []string{"DoWearActs ok", "DoWearActs proof", "DoWearActs state", "DoWearActs range", "DoWearActs limit", "FirstBreak ok", "FirstBreak notfound", "ReadActs ok"} {
		if found[what] < 25 {
			t.Errorf("the tests look at too few cases of %s: %d", what, found[what])
		}
	}
}

// TestModelActsTexts changes texts by a character, a blank or a newline.
func TestModelActsTexts(t *testing.T) {
	read := wearCallsNamed("ReadActs")[0]
	for _, text := range []string{"", "turn 4\n", "hammer 23\n", "pin 95 0\n", "move 4 0 15 1\n", "turn 1000000\n", "turn 0\nhammer 0\n", "move 0 0 0 0\npin 10 2\nturn 9\n"} {
		near := append(nearTexts(text), text+"\n", "\n"+text, text+" ", " "+text, text+text, strings.TrimSpace(text), strings.ReplaceAll(text, " ", "  "), strings.ReplaceAll(text, "\n", " \n"), strings.ReplaceAll(text, "\n", "\n "), strings.ReplaceAll(text, "\n", "\r\n"), strings.ReplaceAll(text, " ", "\n"), strings.ReplaceAll(text, "\n", " 0\n"), strings.ToUpper(text))
		for _, one := range near {
			checkWear(t, read, wearArgs{text: one})
		}
	}
}
