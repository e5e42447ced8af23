package tests

import (
	"fmt"
	"math/rand"
	"slices"
	"testing"

	"loop.example/g01311/impl"
)

// This file tells chapter 3 once more, by sets of places and plain recursion, and holds the program against it.

// code tells the first error of a frame, drums for it, and a tune.
func (a pinArgs) code(t impl.Tune, drums ...impl.Drum) int64 {
	for _, d := range append(drums, impl.Drum{}) {
		if !modelDrum(a.f, d) || !modelValid(t) {
			return impl.ErrInvalid
		}
	}
	for _, n := range t {
		if n.At >= a.f.Steps {
			return impl.ErrRange
		}
	}
	return impl.OK
}

// codeWith is code, or ErrRange, behind it, if a number is not as told.
func (a pinArgs) codeWith(least, most int64, t impl.Tune, drums ...impl.Drum) int64 {
	if code := a.code(t, drums...); code != impl.OK {
		return code
	}
	if a.n < least || a.n > most {
		return impl.ErrRange
	}
	return impl.OK
}

// pinSearch is a search for drums on which a tune is pinned; it ends with the first one, if it is not for the best one.
type pinSearch struct {
	model
	tune   []spot
	old    map[place]bool
	all    bool
	budget int64
	tries  int64
	best   map[place]bool
}

func searchOf(f impl.Frame, t impl.Tune, old impl.Drum, all bool, budget int64) *pinSearch {
	return &pinSearch{modelOf(f, impl.Drum{}), spotsOf(t), placesOf(old), all, budget, 0, nil}
}

// fresh tells how many of some pins the old drum has not.
func (s *pinSearch) fresh(pins map[place]bool) int {
	return model{pins: pins}.more(model{pins: s.old})
}

// goOn gives the notes that are left their tracks, and reports whether the search has ended.
func (s *pinSearch) goOn(pins map[place]bool, left []spot) bool {
	if len(left) == 0 {
		s.best = pins
		return !s.all
	}
	at := model{s.steps, s.hammers, pins}
	for track, h := range s.hammers {
		p := place{left[0].at, int64(track)}
		if int64(h.Pitch) != left[0].pitch || !at.free(p) {
			continue
		}
		if s.tries++; s.tries > s.budget {
			return true
		}
		next := at.with(p).pins
		if s.best != nil && s.fresh(next) >= s.fresh(s.best) {
			continue
		}
		if s.goOn(next, left[1:]) {
			return true
		}
	}
	return false
}

// run returns the code of the search, and the drum, if there is one.
func (s *pinSearch) run() (int64, impl.Drum) {
	s.goOn(map[place]bool{}, s.tune)
	switch {
	case s.tries > s.budget:
		return impl.ErrBudget, impl.Drum{}
	case s.best == nil:
		return impl.ErrNotFound, impl.Drum{}
	}
	return impl.OK, model{pins: s.best}.moved(func(p place) place { return p })
}

// greedily returns the pins of the notes up to the first one that has no track, and how many these are.
func (s *pinSearch) greedily() (impl.Drum, int) {
	at := s.model
	for i, n := range s.tune {
		track := slices.IndexFunc(s.hammers, func(h impl.Hammer) bool { return int64(h.Pitch) == n.pitch })
		for track >= 0 && track < len(s.hammers) && (int64(s.hammers[track].Pitch) != n.pitch || !at.free(place{n.at, int64(track)})) {
			track++
		}
		if track < 0 || track == len(s.hammers) {
			return impl.Drum{}, i
		}
		at = at.with(place{n.at, int64(track)})
	}
	return at.moved(func(p place) place { return p }), len(s.tune)
}

// pinnedTracks returns the track of each note, if a tune is pinned: each note has just one pin, each pin is that of a note, and there is no clash.
func (m model) pinnedTracks(t impl.Tune) ([]int64, bool) {
	byNote := map[spot][]int64{}
	for p := range m.pins {
		s := spot{p.step, int64(m.hammers[p.track].Pitch)}
		byNote[s] = append(byNote[s], p.track)
	}
	var list []int64
	for _, s := range spotsOf(t) {
		if len(byNote[s]) != 1 {
			return nil, false
		}
		list = append(list, byNote[s][0])
		delete(byNote, s)
	}
	return list, len(byNote) == 0 && len(m.clashes()) == 0
}

// crowded looks at all pitches, and at all steps one by one.
func (m model) crowded(t impl.Tune) string {
	for pitch := range int64(48) {
		count, ready := 0, int64(1)
		for _, h := range m.hammers {
			if int64(h.Pitch) == pitch && (count == 0 || int64(h.Ready) < ready) {
				ready = int64(h.Ready)
			}
			if int64(h.Pitch) == pitch {
				count++
			}
		}
		for from := range m.steps {
			near := 0
			for gap := range ready {
				if slices.Contains(spotsOf(t), spot{(from + gap) % m.steps, pitch}) {
					near++
				}
			}
			if near > count {
				return answers(impl.OK, from, pitch, near)
			}
		}
	}
	return answers(impl.ErrNotFound, 0, 0, 0)
}

// ringOK reports whether there is a drum of so many steps with hammers that are ready so many steps later.
func ringOK(steps, ready int64) bool {
	return steps >= 2 && steps <= 96 && ready >= 1 && ready <= 20 && ready <= steps
}

// modelNeeded tries one hammer, two hammers, and so on.
func modelNeeded(steps, ready int64, ats []int64) (int64, int64) {
	rising := slices.IsSortedFunc(ats, func(a, b int64) int {
		if a > b {
			return 1
		}
		return -1
	})
	if !ringOK(steps, ready) || !rising || len(ats) > 0 && (ats[0] < 0 || ats[len(ats)-1] >= steps) {
		return 0, impl.ErrRange
	}
	for i := 1; i < len(ats); i++ {
		if ats[i] == ats[i-1] {
			return 0, impl.ErrRange
		}
	}
	if len(ats) > 14 {
		return 0, impl.ErrLimit
	}
	count := 0
	for !sharedBy(make([][]int64, count), steps, ready, ats) {
		count++
	}
	return int64(count), impl.OK
}

// sharedBy reports whether hammers that have some pins can have all those that are left.
func sharedBy(hammers [][]int64, steps, ready int64, left []int64) bool {
	if len(left) == 0 {
		return true
	}
	for i, pins := range hammers {
		apart := true
		for _, p := range pins {
			apart = apart && left[0]-p >= ready && p+steps-left[0] >= ready
		}
		if apart {
			hammers[i] = append(slices.Clone(pins), left[0])
			if sharedBy(hammers, steps, ready, left[1:]) {
				return true
			}
			hammers[i] = pins
		}
		if len(pins) == 0 {
			break
		}
	}
	return false
}

func modelFrameFor(steps, ready int64, t impl.Tune) string {
	if !modelValid(t) {
		return answers(impl.ErrInvalid, impl.Frame{})
	}
	if !ringOK(steps, ready) || modelLength(t) > steps {
		return answers(impl.ErrRange, impl.Frame{})
	}
	f := impl.Frame{Steps: int16(steps)}
	for pitch := range int8(48) {
		var ats []int64
		for _, n := range t {
			if n.Pitch == pitch {
				ats = append(ats, int64(n.At))
			}
		}
		count, code := modelNeeded(steps, ready, ats)
		if code != impl.OK {
			return answers(code, impl.Frame{})
		}
		for range count {
			f.Hammers = append(f.Hammers, impl.Hammer{Pitch: pitch, Ready: int8(ready)})
		}
	}
	if len(f.Hammers) > 24 {
		return answers(impl.ErrLimit, impl.Frame{})
	}
	if len(f.Hammers) == 0 {
		return answers(impl.ErrNotFound, impl.Frame{})
	}
	return answers(impl.OK, f)
}

// lessTrack returns a frame and a drum without a track, place by place.
func lessTrack(f impl.Frame, d impl.Drum, track int64) (impl.Frame, impl.Drum) {
	less := impl.Frame{Steps: f.Steps}
	for i, h := range f.Hammers {
		if int64(i) != track {
			less.Hammers = append(less.Hammers, h)
		}
	}
	return less, modelOf(f, d).moved(func(p place) place {
		if p.track > track {
			p.track--
		}
		return p
	})
}

func pairsOf(places []place) [][2]int64 {
	list := [][2]int64{}
	for _, p := range places {
		list = append(list, [2]int64{p.step, p.track})
	}
	return list
}

// onlyIn returns the places that one set has, and another one has not.
func onlyIn(a, b map[place]bool) map[place]bool {
	set := map[place]bool{}
	for p := range a {
		if !b[p] {
			set[p] = true
		}
	}
	return set
}

// pinCall is a function of chapter 3: what the program returns, and what the model does.
type pinCall struct {
	name string
	run  func(a pinArgs) string
	want func(a pinArgs) string
}

func pinCalls() []pinCall {
	return slices.Concat(callsOfSearches(), callsOfPinnings(), callsOfNeeds(), callsOfTracks(), callsOfMoves())
}

func callsOfSearches() []pinCall {
	return []pinCall{
		{"PinTune", func(a pinArgs) string {
			d, tries, c := impl.PinTune(a.f, a.t, a.n)
			return answers(c, d, tries)
		}, func(a pinArgs) string {
			if code := a.codeWith(0, 20000, a.t); code != impl.OK {
				return answers(code, impl.Drum{}, 0)
			}
			s := searchOf(a.f, a.t, impl.Drum{}, false, a.n)
			code, d := s.run()
			if code != impl.OK {
				return answers(code, impl.Drum{}, 0)
			}
			return answers(code, d, s.tries)
		}},
		{"PinLike", func(a pinArgs) string {
			d, fresh, tries, c := impl.PinLike(a.f, a.d, a.t, a.n)
			return answers(c, d, fresh, tries)
		}, func(a pinArgs) string {
			if code := a.codeWith(0, 20000, a.t, a.d); code != impl.OK {
				return answers(code, impl.Drum{}, 0, 0)
			}
			s := searchOf(a.f, a.t, a.d, true, a.n)
			code, d := s.run()
			if code != impl.OK {
				return answers(code, impl.Drum{}, 0, 0)
			}
			return answers(code, d, s.fresh(s.best), s.tries)
		}},
		{"NeedlessTracks", func(a pinArgs) string {
			list, c := impl.NeedlessTracks(a.f, a.t)
			return answers(c, list)
		}, func(a pinArgs) string {
			list := []int64{}
			code := a.code(a.t)
			for track := range int64(len(a.f.Hammers)) {
				if code != impl.OK || len(a.f.Hammers) == 1 {
					break
				}
				less, _ := lessTrack(a.f, impl.Drum{}, track)
				if code, _ := searchOf(less, a.t, impl.Drum{}, false, 20000).run(); code == impl.OK {
					list = append(list, track)
				}
			}
			return answers(code, list)
		}},
	}
}

func callsOfPinnings() []pinCall {
	return []pinCall{
		{"PinGreedily", func(a pinArgs) string {
			d, c := impl.PinGreedily(a.f, a.t)
			return answers(c, d)
		}, func(a pinArgs) string {
			if code := a.code(a.t); code != impl.OK {
				return answers(code, impl.Drum{})
			}
			d, count := searchOf(a.f, a.t, impl.Drum{}, false, 0).greedily()
			if count < len(a.t) {
				return answers(impl.ErrNotFound, impl.Drum{})
			}
			return answers(impl.OK, d)
		}},
		{"FirstUnpinned", func(a pinArgs) string {
			index, c := impl.FirstUnpinned(a.f, a.t)
			return answers(c, index)
		}, func(a pinArgs) string {
			if code := a.code(a.t); code != impl.OK {
				return answers(code, 0)
			}
			_, count := searchOf(a.f, a.t, impl.Drum{}, false, 0).greedily()
			if count == len(a.t) {
				return answers(impl.ErrNotFound, 0)
			}
			return answers(impl.OK, count)
		}},
		{"CheckPinning", func(a pinArgs) string {
			is, c := impl.CheckPinning(a.f, a.t, a.d)
			return answers(c, is)
		}, func(a pinArgs) string {
			if code := a.code(a.t, a.d); code != impl.OK {
				return answers(code, false)
			}
			_, is := modelOf(a.f, a.d).pinnedTracks(a.t)
			return answers(impl.OK, is)
		}},
		{"TracksOf", func(a pinArgs) string {
			list, c := impl.TracksOf(a.f, a.t, a.d)
			return answers(c, list)
		}, func(a pinArgs) string {
			if code := a.code(a.t, a.d); code != impl.OK {
				return answers(code, []int64{})
			}
			list, is := modelOf(a.f, a.d).pinnedTracks(a.t)
			if !is {
				return answers(impl.ErrProof, []int64{})
			}
			return answers(impl.OK, list)
		}},
		{"CrowdedAt", func(a pinArgs) string {
			step, pitch, count, c := impl.CrowdedAt(a.f, a.t)
			return answers(c, step, pitch, count)
		}, func(a pinArgs) string {
			if code := a.code(a.t); code != impl.OK {
				return answers(code, 0, 0, 0)
			}
			return modelOf(a.f, impl.Drum{}).crowded(a.t)
		}},
	}
}

func callsOfNeeds() []pinCall {
	return []pinCall{
		{"HammersNeeded", func(a pinArgs) string {
			count, c := impl.HammersNeeded(a.steps, a.ready, a.ats)
			return answers(c, count)
		}, func(a pinArgs) string {
			count, code := modelNeeded(a.steps, a.ready, a.ats)
			return answers(code, count)
		}},
		{"FrameFor", func(a pinArgs) string {
			f, c := impl.FrameFor(a.steps, a.ready, a.t)
			return answers(c, f)
		}, func(a pinArgs) string { return modelFrameFor(a.steps, a.ready, a.t) }},
	}
}

func callsOfTracks() []pinCall {
	return []pinCall{
		{"SpareTracks", func(a pinArgs) string {
			list, c := impl.SpareTracks(a.f, a.d)
			return answers(c, list)
		}, func(a pinArgs) string {
			list := []int64{}
			code := a.code(nil, a.d)
			for track := range int64(len(a.f.Hammers)) {
				if code == impl.OK && !modelOf(a.f, a.d).strikes(track) {
					list = append(list, track)
				}
			}
			return answers(code, list)
		}},
		{"WithoutTrack", func(a pinArgs) string {
			f, d, c := impl.WithoutTrack(a.f, a.d, a.n)
			return answers(c, f, d)
		}, func(a pinArgs) string {
			code := a.codeWith(0, int64(len(a.f.Hammers))-1, nil, a.d)
			if code == impl.OK && (len(a.f.Hammers) == 1 || modelOf(a.f, a.d).strikes(a.n)) {
				code = impl.ErrState
			}
			if code != impl.OK {
				return answers(code, impl.Frame{}, impl.Drum{})
			}
			f, d := lessTrack(a.f, a.d, a.n)
			return answers(code, f, d)
		}},
	}
}

// strikes reports whether a track has a pin.
func (m model) strikes(track int64) bool {
	for p := range m.pins {
		if p.track == track {
			return true
		}
	}
	return false
}

func callsOfMoves() []pinCall {
	return []pinCall{
		{"MovesBetween", func(a pinArgs) string {
			out, in, c := impl.MovesBetween(a.f, a.d, a.e)
			return answers(c, out, in)
		}, func(a pinArgs) string {
			if code := a.code(nil, a.d, a.e); code != impl.OK {
				return answers(code, [][2]int64{}, [][2]int64{})
			}
			one, two := placesOf(a.d), placesOf(a.e)
			return answers(impl.OK, pairsOf(ordered(onlyIn(one, two))), pairsOf(ordered(onlyIn(two, one))))
		}},
		{"ApplyMoves", func(a pinArgs) string {
			d, c := impl.ApplyMoves(a.f, a.d, a.out, a.in)
			return answers(c, d)
		}, func(a pinArgs) string {
			if code := a.code(nil, a.d); code != impl.OK {
				return answers(code, impl.Drum{})
			}
			m := modelOf(a.f, a.d)
			for _, p := range slices.Concat(a.out, a.in) {
				if m.noStep(p[0]) || m.noTrack(p[1]) {
					return answers(impl.ErrRange, impl.Drum{})
				}
			}
			for i, p := range slices.Concat(a.out, a.in) {
				at := place{p[0], p[1]}
				if m.pins[at] != (i < len(a.out)) {
					return answers(impl.ErrState, impl.Drum{})
				}
				m.pins[at] = i >= len(a.out)
				if !m.pins[at] {
					delete(m.pins, at)
				}
			}
			return answers(impl.OK, m.moved(func(p place) place { return p }))
		}},
	}
}

func (a pinArgs) String() string {
	return fmt.Sprint(rawFrame(a.f), "; ", raw(a.t), "; ", rawDrum(a.d), "; ", rawDrum(a.e), "; ", a.n, "; ", a.steps, " ", a.ready, " ", a.ats, "; ", a.out, a.in)
}

func checkPin(t *testing.T, c pinCall, a pinArgs) {
	t.Helper()
	if got, want := c.run(a), c.want(a); got != want {
		t.Errorf("%s: %s: got %s, want %s", c.name, a, got, want)
	}
}

func TestModelPinning(t *testing.T) {
	random := rand.New(rand.NewSource(31))
	for range 1500 {
		a := randomArgs(random)
		for _, c := range pinCalls() {
			checkPin(t, c, a)
		}
	}
}

// TestModelBudgets asks for the code and the tries of searches with just enough tries, with one less, and with all.
func TestModelBudgets(t *testing.T) {
	codes := map[int64]int{}
	random := rand.New(rand.NewSource(32))
	for range 1500 {
		a := randomArgs(random)
		for i, all := range []bool{false, true} {
			s := searchOf(a.f, a.t, a.d, all, 20000)
			if code, _ := s.run(); code == impl.ErrBudget {
				continue
			}
			for _, a.n = range []int64{0, s.tries - 1, s.tries, s.tries + 1, 20000} {
				checkPin(t, callsOfSearches()[i], a)
				_, _, code := impl.PinTune(a.f, a.t, a.n)
				codes[code]++
			}
		}
	}
	for _, code := range []int64{impl.OK, impl.ErrRange, impl.ErrNotFound, impl.ErrBudget} {
		if codes[code] < 100 {
			t.Errorf("the tests look at too few cases: %v", codes)
		}
	}
}

// TestModelPinningFrames goes through frames and drums that are valid or not.
func TestModelPinningFrames(t *testing.T) {
	random := rand.New(rand.NewSource(33))
	for _, f := range slices.Concat(validFrames(), invalidFrames()) {
		for i, d := range []impl.Drum{{}, {1: 1, 4: 1}, {1: 5, 2: 1}, {0: 1 << 23}, {7: 7}, {95: 1}} {
			a := randomArgs(random)
			a.f, a.d, a.n = f, d, int64(i)
			for _, u := range []impl.Tune{a.t, notes(0, 24, 1, 24, 1, 25), notes(1, 24, 1, 24), row(9, 0, 24, 1, 0)} {
				a.t = u
				for _, c := range pinCalls() {
					checkPin(t, c, a)
				}
			}
		}
	}
}

func TestModelPinningTunes(t *testing.T) {
	frames := []impl.Frame{frame(96, 24, 1, 0, 1, 47, 1), frame(20, 24, 2, 25, 1), likeHammers(48, 12, 0, 1, 1)}
	for _, u := range allTunes() {
		for _, f := range frames {
			for _, n := range []int64{0, 60, 120} {
				a := pinArgs{f: f, t: u, n: n, steps: int64(f.Steps), ready: 1}
				for _, c := range pinCalls() {
					checkPin(t, c, a)
				}
			}
		}
	}
}

func TestModelPinningNumbers(t *testing.T) {
	random := rand.New(rand.NewSource(34))
	for _, n := range budgetNumbers {
		for range 4 {
			a := randomArgs(random)
			b, c, d := a, a, a
			a.n = n
			b.steps, b.ready = n, n
			c.steps, d.ready = n, n
			for _, call := range pinCalls() {
				checkPin(t, call, a)
				checkPin(t, call, b)
				checkPin(t, call, c)
				checkPin(t, call, d)
			}
			for _, m := range budgetNumbers {
				e := pinArgs{f: a.f, ats: []int64{n, m}, out: [][2]int64{{n, m}}, steps: 96, ready: 20}
				f := pinArgs{f: a.f, ats: []int64{0, n, m}, in: [][2]int64{{0, 0}, {n, m}}, steps: 24, ready: 7}
				for _, call := range slices.Concat(callsOfNeeds(), callsOfMoves()) {
					checkPin(t, call, e)
					checkPin(t, call, f)
				}
			}
		}
	}
}

// TestModelNeeded goes through all steps of small drums, and some of great ones.
func TestModelNeeded(t *testing.T) {
	call := callsOfNeeds()[0]
	for steps := int64(2); steps <= 9; steps++ {
		for ready := int64(1); ready <= steps; ready++ {
			for bits := range 1 << steps {
				a := pinArgs{steps: steps, ready: ready}
				for at := range steps {
					if bits>>at&1 == 1 {
						a.ats = append(a.ats, at)
					}
				}
				checkPin(t, call, a)
			}
		}
	}
	random := rand.New(rand.NewSource(35))
	for range 800 {
		steps := 10 + random.Int63n(87)
		a := pinArgs{steps: steps, ready: 1 + random.Int63n(min(steps, 20))}
		for _, at := range random.Perm(int(min(steps, 14+random.Int63n(80))))[:min(steps, 14)] {
			a.ats = append(a.ats, int64(at))
		}
		slices.Sort(a.ats)
		checkPin(t, call, a)
	}
}

// TestModelCircles asks for pins all around at equal distances: a hammer can have as many of them as fit, and no more.
func TestModelCircles(t *testing.T) {
	for count := int64(1); count <= 14; count++ {
		for by := int64(1); by*count <= 96; by++ {
			for ready := int64(1); ready <= min(20, by*count); ready++ {
				if by*count < 2 {
					continue
				}
				got, code := impl.HammersNeeded(by*count, ready, numbersBy(int(count), 0, by))
				fit := count / ((ready + by - 1) / by)
				wantEqual(t, answers(code, got), answers(impl.OK, (count+fit-1)/fit), "circle of", count, by, ready)
			}
		}
	}
}

// tunesIn returns all tunes whose notes are at steps of a frame, and have some pitches.
func tunesIn(f impl.Frame, pitches ...int8) []impl.Tune {
	list := []impl.Tune{{}}
	for step := range f.Steps {
		for _, pitch := range pitches {
			for _, t := range list {
				list = append(list, append(slices.Clone(t), impl.Note{At: step, Pitch: pitch}))
			}
		}
	}
	return list
}

// allDrums returns all drums of a small frame.
func allDrums(f impl.Frame) []impl.Drum {
	var list []impl.Drum
	width := len(f.Hammers)
	for bits := range uint32(1) << (int(f.Steps) * width) {
		var d impl.Drum
		for step := range int(f.Steps) {
			d[step] = bits >> (step * width) & allTracks(f)
		}
		list = append(list, d)
	}
	return list
}

// smallFrames have few enough drums to look at all of them.
func smallFrames() []impl.Frame {
	return []impl.Frame{
		frame(2, 24, 1), frame(2, 24, 2), frame(2, 24, 2, 24, 2), frame(2, 24, 2, 25, 1, 24, 1),
		frame(3, 24, 2, 24, 3), frame(3, 24, 2, 24, 2, 24, 2), frame(3, 25, 1, 24, 2, 25, 3),
		frame(4, 24, 2, 24, 3), frame(4, 24, 2, 24, 2, 25, 1), frame(4, 24, 1, 24, 2, 24, 3),
		frame(5, 24, 2, 24, 2), frame(5, 24, 3, 24, 2), frame(5, 24, 2, 25, 2), frame(6, 24, 2, 24, 3), frame(6, 24, 3, 24, 2),
	}
}

// pinnedDrums returns, of all drums of a frame, those on which each tune is pinned.
func pinnedDrums(f impl.Frame) map[string][]impl.Drum {
	byTune := map[string][]impl.Drum{}
	for _, d := range allDrums(f) {
		m := modelOf(f, d)
		var u impl.Tune
		for _, p := range ordered(m.pins) {
			u = append(u, impl.Note{At: int16(p.step), Pitch: m.hammers[p.track].Pitch})
		}
		slices.SortFunc(u, func(a, b impl.Note) int {
			if (spot{int64(a.At), int64(a.Pitch)}).behind(spot{int64(b.At), int64(b.Pitch)}) {
				return 1
			}
			return -1
		})
		if _, is := m.pinnedTracks(u); is {
			byTune[raw(u)] = append(byTune[raw(u)], d)
		}
	}
	return byTune
}

// TestAllDrums holds PinTune, PinLike, CheckPinning and TracksOf against a search through all drums.
func TestAllDrums(t *testing.T) {
	random := rand.New(rand.NewSource(36))
	for _, f := range smallFrames() {
		byTune, drums := pinnedDrums(f), allDrums(f)
		for _, u := range tunesIn(f, 24, 25) {
			list := byTune[raw(u)]
			checkFirst(t, f, u, list)
			for range 3 {
				checkLike(t, f, u, drums[random.Intn(len(drums))], list)
			}
			for range 5 {
				d := drums[random.Intn(len(drums))]
				is, code := impl.CheckPinning(f, u, d)
				wantEqual(t, answers(code, is), answers(impl.OK, slices.Contains(list, d)), "check", rawFrame(f), raw(u), rawDrum(d))
			}
			for _, d := range list {
				is, code := impl.CheckPinning(f, u, d)
				wantEqual(t, answers(code, is), "ok; true", "check", rawFrame(f), raw(u), rawDrum(d))
			}
		}
	}
}

// checkFirst asks that PinTune returns, of all drums on which a tune is pinned, the one whose list of tracks is first.
func checkFirst(t *testing.T, f impl.Frame, u impl.Tune, list []impl.Drum) {
	t.Helper()
	got, _, code := impl.PinTune(f, u, impl.MaxTries)
	if len(list) == 0 {
		wantEqual(t, answers(code, got), answers(impl.ErrNotFound, impl.Drum{}), "pin", rawFrame(f), raw(u))
		return
	}
	first := slices.MinFunc(list, func(a, b impl.Drum) int {
		x, _ := modelOf(f, a).pinnedTracks(u)
		y, _ := modelOf(f, b).pinnedTracks(u)
		return slices.Compare(x, y)
	})
	wantEqual(t, answers(code, got), answers(impl.OK, first), "pin", rawFrame(f), raw(u))
	tracks, code := impl.TracksOf(f, u, got)
	want, _ := modelOf(f, first).pinnedTracks(u)
	wantEqual(t, answers(code, tracks), answers(impl.OK, want), "tracks", rawFrame(f), raw(u))
}

// checkLike asks that PinLike returns, of all drums on which a tune is pinned, the first one with the fewest new pins.
func checkLike(t *testing.T, f impl.Frame, u impl.Tune, old impl.Drum, list []impl.Drum) {
	t.Helper()
	got, fresh, _, code := impl.PinLike(f, old, u, impl.MaxTries)
	if len(list) == 0 {
		wantEqual(t, answers(code, got, fresh), answers(impl.ErrNotFound, impl.Drum{}, 0), "like", rawFrame(f), raw(u), rawDrum(old))
		return
	}
	news := func(d impl.Drum) int { return modelOf(f, d).more(modelOf(f, old)) }
	best := slices.MinFunc(list, func(a, b impl.Drum) int {
		if news(a) != news(b) {
			return news(a) - news(b)
		}
		x, _ := modelOf(f, a).pinnedTracks(u)
		y, _ := modelOf(f, b).pinnedTracks(u)
		return slices.Compare(x, y)
	})
	wantEqual(t, answers(code, got, fresh), answers(impl.OK, best, news(best)), "like", rawFrame(f), raw(u), rawDrum(old))
}
