package tests

import (
	"fmt"
	"slices"
	"strconv"
	"strings"
	"testing"

	"loop.example/g01311/impl"
)

// This file tells chapter 2 once more, by sets of places, and holds the program against it.

type place struct{ step, track int64 }

func (p place) behind(other place) bool {
	return p.step > other.step || p.step == other.step && p.track > other.track
}

func modelFrame(f impl.Frame) bool {
	if f.Steps < 2 || f.Steps > 96 || len(f.Hammers) < 1 || len(f.Hammers) > 24 {
		return false
	}
	for _, h := range f.Hammers {
		if h.Pitch < 0 || h.Pitch > 47 || h.Ready < 1 || h.Ready > 20 || int16(h.Ready) > f.Steps {
			return false
		}
	}
	return true
}

// placesOf returns all places at which a bit is set, whether there may be a pin or not.
func placesOf(d impl.Drum) map[place]bool {
	set := map[place]bool{}
	for step := range int64(96) {
		if d[step] == 0 {
			continue
		}
		for track := range int64(32) {
			if d[step]/(1<<track)%2 == 1 {
				set[place{step, track}] = true
			}
		}
	}
	return set
}

func modelDrum(f impl.Frame, d impl.Drum) bool {
	if !modelFrame(f) {
		return false
	}
	for p := range placesOf(d) {
		if p.step >= int64(f.Steps) || p.track >= int64(len(f.Hammers)) {
			return false
		}
	}
	return true
}

// model is a valid frame with the pins of a valid drum.
type model struct {
	steps   int64
	hammers []impl.Hammer
	pins    map[place]bool
}

func modelOf(f impl.Frame, d impl.Drum) model {
	return model{int64(f.Steps), f.Hammers, placesOf(d)}
}

// ordered returns places by the step, then by the track.
func ordered(set map[place]bool) []place {
	var list []place
	for p := range set {
		list = append(list, p)
	}
	slices.SortFunc(list, func(a, b place) int {
		if a.behind(b) {
			return 1
		}
		return -1
	})
	return list
}

// walk goes from a place in steps of one, forward or back, until a pin of the track is there, and returns it and how many steps it took.
func (m model) walk(p place, by int64) (place, int64) {
	for count := int64(1); ; count++ {
		p.step += by
		if p.step == m.steps {
			p.step = 0
		}
		if p.step == -1 {
			p.step = m.steps - 1
		}
		if m.pins[p] {
			return p, count
		}
	}
}

func (m model) clash(p place) bool {
	_, count := m.walk(p, 1)
	return count < int64(m.hammers[p.track].Ready)
}

func (m model) clashes() map[place]bool {
	set := map[place]bool{}
	for p := range m.pins {
		if m.clash(p) {
			set[p] = true
		}
	}
	return set
}

// with returns the model with one pin more.
func (m model) with(p place) model {
	pins := map[place]bool{p: true}
	for other := range m.pins {
		pins[other] = true
	}
	m.pins = pins
	return m
}

func (m model) free(p place) bool {
	if m.pins[p] {
		return false
	}
	more := m.with(p)
	before, _ := more.walk(p, -1)
	made := more.clash(before) && (before == p || !m.clash(before))
	return !more.clash(p) && !made
}

// moved returns the drum in which each pin is where to puts it.
func (m model) moved(to func(p place) place) impl.Drum {
	var d impl.Drum
	for p := range m.pins {
		q := to(p)
		d[q.step] += 1 << q.track
	}
	return d
}

func (m model) noStep(n int64) bool  { return n < 0 || n >= m.steps }
func (m model) noTrack(n int64) bool { return n < 0 || n >= int64(len(m.hammers)) }
func noPitch(n int64) bool           { return n < 0 || n >= 48 }

// answers shows all results of a call with its code.
func answers(code int64, results ...any) string {
	parts := []string{impl.CodeName(code)}
	for _, r := range results {
		switch x := r.(type) {
		case impl.Drum:
			parts = append(parts, rawDrum(x))
		case impl.Frame:
			parts = append(parts, rawFrame(x))
		case impl.Tune:
			parts = append(parts, raw(x))
		case []impl.Change:
			parts = append(parts, rawChanges(x))
		case impl.Wear:
			parts = append(parts, rawWear(x))
		case []impl.Choice:
			parts = append(parts, rawChoices(x))
		default:
			parts = append(parts, fmt.Sprint(x))
		}
	}
	return strings.Join(parts, "; ")
}

// withoutZeros leaves the zero values of answers out.
func withoutZeros(text string) string {
	return strings.NewReplacer("0", "", "[]", "", "false", "", ";", "", " ", "").Replace(text)
}

// drumCall is a function of chapter 2: what the program returns, and what the model does for valid frames and drums.
type drumCall struct {
	name string
	run  func(f impl.Frame, d, e impl.Drum, n, k int64) string
	want func(m, other model, n, k int64) string
}

func drumCalls() []drumCall {
	return slices.Concat(callsOfClashes(), callsOfPins(), callsOfPlaces(), callsOfTurns(), callsOfFrames())
}

func drumCallsNamed(names string) []drumCall {
	return slices.DeleteFunc(drumCalls(), func(c drumCall) bool {
		return !slices.Contains(strings.Fields(names), c.name)
	})
}

func callsOfClashes() []drumCall {
	return []drumCall{
		{"TuneOf", func(f impl.Frame, d, e impl.Drum, n, k int64) string {
			x, c := impl.TuneOf(f, d)
			return answers(c, x)
		}, func(m, other model, n, k int64) string {
			set := map[place]bool{}
			for p := range m.pins {
				set[place{p.step, int64(m.hammers[p.track].Pitch)}] = true
			}
			if len(set) > 120 {
				return answers(impl.ErrLimit, impl.Tune{})
			}
			var tune impl.Tune
			for _, p := range ordered(set) {
				tune = append(tune, impl.Note{At: int16(p.step), Pitch: int8(p.track)})
			}
			return answers(impl.OK, tune)
		}},
		{"ClashesOf", func(f impl.Frame, d, e impl.Drum, n, k int64) string {
			x, c := impl.ClashesOf(f, d)
			return answers(c, x)
		}, func(m, other model, n, k int64) string {
			list := [][2]int64{}
			for _, p := range ordered(m.clashes()) {
				list = append(list, [2]int64{p.step, p.track})
			}
			return answers(impl.OK, list)
		}},
		{"IsPlayable", func(f impl.Frame, d, e impl.Drum, n, k int64) string {
			x, c := impl.IsPlayable(f, d)
			return answers(c, x)
		}, func(m, other model, n, k int64) string {
			return answers(impl.OK, len(m.clashes()) == 0)
		}},
		{"FirstClash", func(f impl.Frame, d, e impl.Drum, n, k int64) string {
			x, y, c := impl.FirstClash(f, d)
			return answers(c, x, y)
		}, func(m, other model, n, k int64) string {
			list := ordered(m.clashes())
			if len(list) == 0 {
				return answers(impl.ErrNotFound, 0, 0)
			}
			return answers(impl.OK, list[0].step, list[0].track)
		}},
	}
}

func callsOfPins() []drumCall {
	return []drumCall{
		{"WithPin", func(f impl.Frame, d, e impl.Drum, n, k int64) string {
			x, c := impl.WithPin(f, d, n, k)
			return answers(c, x)
		}, func(m, other model, n, k int64) string {
			return m.changed(n, k, false)
		}},
		{"WithoutPin", func(f impl.Frame, d, e impl.Drum, n, k int64) string {
			x, c := impl.WithoutPin(f, d, n, k)
			return answers(c, x)
		}, func(m, other model, n, k int64) string {
			return m.changed(n, k, true)
		}},
		{"HasPin", func(f impl.Frame, d, e impl.Drum, n, k int64) string {
			x, c := impl.HasPin(f, d, n, k)
			return answers(c, x)
		}, func(m, other model, n, k int64) string {
			if m.noStep(n) || m.noTrack(k) {
				return answers(impl.ErrRange, false)
			}
			return answers(impl.OK, m.pins[place{n, k}])
		}},
		{"CountPins", func(f impl.Frame, d, e impl.Drum, n, k int64) string {
			x, c := impl.CountPins(f, d)
			return answers(c, x)
		}, func(m, other model, n, k int64) string {
			return answers(impl.OK, len(m.pins))
		}},
		{"PinsByTrack", func(f impl.Frame, d, e impl.Drum, n, k int64) string {
			x, c := impl.PinsByTrack(f, d)
			return answers(c, x)
		}, func(m, other model, n, k int64) string {
			counts := make([]int64, len(m.hammers))
			for p := range m.pins {
				counts[p.track]++
			}
			return answers(impl.OK, counts)
		}},
		{"PinsToMove", func(f impl.Frame, d, e impl.Drum, n, k int64) string {
			x, y, c := impl.PinsToMove(f, d, e)
			return answers(c, x, y)
		}, func(m, other model, n, k int64) string {
			return answers(impl.OK, other.more(m), m.more(other))
		}},
	}
}

// changed tells what becomes of the drum when a pin comes, or one that has been there goes.
func (m model) changed(step, track int64, there bool) string {
	p := place{step, track}
	if m.noStep(step) || m.noTrack(track) {
		return answers(impl.ErrRange, impl.Drum{})
	}
	if m.pins[p] != there {
		return answers(impl.ErrState, impl.Drum{})
	}
	set := m.with(p)
	if there {
		delete(set.pins, p)
	}
	return answers(impl.OK, set.moved(func(p place) place { return p }))
}

// more tells how many pins another model has not.
func (m model) more(other model) int {
	count := 0
	for p := range m.pins {
		if !other.pins[p] {
			count++
		}
	}
	return count
}

func callsOfPlaces() []drumCall {
	return []drumCall{
		{"FreePlaces", func(f impl.Frame, d, e impl.Drum, n, k int64) string {
			x, c := impl.FreePlaces(f, d, n)
			return answers(c, x)
		}, func(m, other model, n, k int64) string {
			list := []int64{}
			if m.noTrack(n) {
				return answers(impl.ErrRange, list)
			}
			for step := range m.steps {
				if m.free(place{step, n}) {
					list = append(list, step)
				}
			}
			return answers(impl.OK, list)
		}},
		{"FreeTracks", func(f impl.Frame, d, e impl.Drum, n, k int64) string {
			x, c := impl.FreeTracks(f, d, n, k)
			return answers(c, x)
		}, func(m, other model, n, k int64) string {
			list := []int64{}
			if m.noStep(n) || noPitch(k) {
				return answers(impl.ErrRange, list)
			}
			for track, h := range m.hammers {
				if int64(h.Pitch) == k && m.free(place{n, int64(track)}) {
					list = append(list, int64(track))
				}
			}
			return answers(impl.OK, list)
		}},
	}
}

func callsOfTurns() []drumCall {
	return []drumCall{
		{"TurnDrum", func(f impl.Frame, d, e impl.Drum, n, k int64) string {
			x, c := impl.TurnDrum(f, d, n)
			return answers(c, x)
		}, func(m, other model, n, k int64) string {
			if m.noStep(n) {
				return answers(impl.ErrRange, impl.Drum{})
			}
			return answers(impl.OK, m.moved(func(p place) place { return place{(p.step + n) % m.steps, p.track} }))
		}},
		{"MirrorDrum", func(f impl.Frame, d, e impl.Drum, n, k int64) string {
			x, c := impl.MirrorDrum(f, d)
			return answers(c, x)
		}, func(m, other model, n, k int64) string {
			return answers(impl.OK, m.moved(func(p place) place { return place{m.steps - 1 - p.step, p.track} }))
		}},
		{"SwapTracks", func(f impl.Frame, d, e impl.Drum, n, k int64) string {
			x, y, c := impl.SwapTracks(f, d, n, k)
			return answers(c, x, y)
		}, func(m, other model, n, k int64) string {
			if m.noTrack(n) || m.noTrack(k) {
				return answers(impl.ErrRange, impl.Frame{}, impl.Drum{})
			}
			to := func(track int64) int64 {
				switch track {
				case n:
					return k
				case k:
					return n
				}
				return track
			}
			f := impl.Frame{Steps: int16(m.steps), Hammers: make([]impl.Hammer, len(m.hammers))}
			for track, h := range m.hammers {
				f.Hammers[to(int64(track))] = h
			}
			return answers(impl.OK, f, m.moved(func(p place) place { return place{p.step, to(p.track)} }))
		}},
		{"DrumPicture", func(f impl.Frame, d, e impl.Drum, n, k int64) string {
			x, c := impl.DrumPicture(f, d)
			return answers(c, strings.Join(x, "/"))
		}, func(m, other model, n, k int64) string {
			var lines []string
			for track := range m.hammers {
				line := ""
				for step := range m.steps {
					line += m.mark(place{step, int64(track)})
				}
				lines = append([]string{line}, lines...)
			}
			return answers(impl.OK, strings.Join(lines, "/"))
		}},
	}
}

func (m model) mark(p place) string {
	if !m.pins[p] {
		return "."
	}
	if m.clash(p) {
		return "!"
	}
	return "x"
}

func callsOfFrames() []drumCall {
	return []drumCall{
		{"BellsOf", func(f impl.Frame, d, e impl.Drum, n, k int64) string {
			x, c := impl.BellsOf(f)
			return answers(c, x)
		}, func(m, other model, n, k int64) string {
			bells := uint64(0)
			for pitch := range 48 {
				if m.count(int64(pitch)) > 0 {
					bells += 1 << pitch
				}
			}
			return answers(impl.OK, bells)
		}},
		{"HammersFor", func(f impl.Frame, d, e impl.Drum, n, k int64) string {
			x, c := impl.HammersFor(f, n)
			return answers(c, x)
		}, func(m, other model, n, k int64) string {
			if noPitch(n) {
				return answers(impl.ErrRange, 0)
			}
			return answers(impl.OK, m.count(n))
		}},
	}
}

func (m model) count(pitch int64) int {
	count := 0
	for _, h := range m.hammers {
		if int64(h.Pitch) == pitch {
			count++
		}
	}
	return count
}

// subject is a valid frame with two valid drums, and the models of them.
type subject struct {
	f        impl.Frame
	d, e     impl.Drum
	m, other model
}

func subjectOf(f impl.Frame, d, e impl.Drum) subject {
	return subject{f, d, e, modelOf(f, d), modelOf(f, e)}
}

func checkCall(t *testing.T, c drumCall, s subject, n, k int64) {
	t.Helper()
	if got, want := c.run(s.f, s.d, s.e, n, k), c.want(s.m, s.other, n, k); got != want {
		t.Errorf("%s: %s; %s; %s; %d %d: got %s, want %s", c.name, rawFrame(s.f), rawDrum(s.d), rawDrum(s.e), n, k, got, want)
	}
}

func TestModelValidDrums(t *testing.T) {
	for _, f := range slices.Concat(validFrames(), invalidFrames()) {
		wantEqual(t, impl.ValidFrame(f), modelFrame(f), "valid frame", rawFrame(f))
		for _, d := range []impl.Drum{{}, {0: 1}, {0: 2}, {7: 1}, {8: 1}, {95: 1}, {0: 1 << 23}, {0: 1 << 24}, {0: 1 << 31}} {
			wantEqual(t, impl.ValidDrum(f, d), modelDrum(f, d), "valid drum", rawFrame(f), ";", rawDrum(d))
		}
	}
	for _, f := range validFrames() {
		for _, d := range slices.Concat(drumsFor(f), invalidDrumsFor(f)) {
			wantEqual(t, impl.ValidDrum(f, d), modelDrum(f, d), "valid drum", rawFrame(f), ";", rawDrum(d))
		}
	}
}

func TestModelDrums(t *testing.T) {
	for _, f := range validFrames() {
		drums := drumsFor(f)
		for i, d := range drums {
			two, same := subjectOf(f, d, drums[(i*5+1)%len(drums)]), subjectOf(f, d, d)
			for _, c := range drumCalls() {
				checkCall(t, c, two, int64(i), int64(i/2))
				checkCall(t, c, same, 0, 0)
			}
		}
	}
}

// TestModelPlaces goes through all steps, tracks and pitches of small frames.
func TestModelPlaces(t *testing.T) {
	calls := drumCallsNamed("WithPin WithoutPin HasPin FreePlaces FreeTracks TurnDrum")
	for _, f := range validFrames() {
		if f.Steps > 8 || len(f.Hammers) > 6 {
			continue
		}
		for _, d := range drumsFor(f) {
			s := subjectOf(f, d, d)
			for n := int64(-1); n <= int64(f.Steps); n++ {
				for k := int64(-1); k <= 48; k++ {
					for _, c := range calls {
						checkCall(t, c, s, n, k)
					}
				}
			}
		}
	}
}

func TestModelFarNumbers(t *testing.T) {
	calls := drumCallsNamed("WithPin WithoutPin HasPin FreePlaces FreeTracks TurnDrum SwapTracks HammersFor")
	for i, f := range validFrames() {
		drums := drumsFor(f)
		s := subjectOf(f, drums[i%len(drums)], drums[0])
		for _, n := range numbersFor(f) {
			for _, c := range calls {
				checkCall(t, c, s, n, 0)
				checkCall(t, c, s, 1, n)
				checkCall(t, c, s, n, n)
			}
		}
	}
}

// TestModelAllDrums goes through all drums of a few small frames.
func TestModelAllDrums(t *testing.T) {
	calls := drumCallsNamed("TuneOf ClashesOf IsPlayable FirstClash FreePlaces DrumPicture")
	for _, f := range []impl.Frame{frame(2, 5, 2, 5, 1), frame(3, 5, 2, 5, 3), frame(4, 5, 2, 6, 3), frame(5, 5, 3), frame(9, 5, 4), frame(7, 5, 1)} {
		width := len(f.Hammers)
		for bits := range uint32(1) << (int(f.Steps) * width) {
			var d impl.Drum
			for step := range int(f.Steps) {
				d[step] = bits >> (step * width) & allTracks(f)
			}
			s := subjectOf(f, d, d)
			for _, c := range calls {
				checkCall(t, c, s, int64(bits)%int64(width), 5)
			}
		}
	}
}

// modelFrameText returns the text of a valid frame.
func modelFrameText(f impl.Frame) string {
	text := fmt.Sprint(f.Steps)
	for _, h := range f.Hammers {
		text += fmt.Sprintf(" %s/%d", strings.Fields(pitchNames)[h.Pitch], h.Ready)
	}
	return text
}

// modelReadFrame looks the parts of a text up among all numbers of steps, and all hammers.
func modelReadFrame(text string, lookup map[string]impl.Hammer) string {
	first, rest, _ := strings.Cut(text, " ")
	f := impl.Frame{}
	for steps := range int16(97) {
		if fmt.Sprint(steps) == first {
			f.Steps = steps
		}
	}
	for _, part := range strings.Split(rest, " ") {
		h, ok := lookup[part]
		if !ok {
			return answers(impl.ErrSyntax, impl.Frame{})
		}
		f.Hammers = append(f.Hammers, h)
	}
	if !modelFrame(f) {
		return answers(impl.ErrSyntax, impl.Frame{})
	}
	return answers(impl.OK, f)
}

func hammerTexts() map[string]impl.Hammer {
	lookup := map[string]impl.Hammer{}
	for pitch, name := range strings.Fields(pitchNames) {
		for ready := 1; ready <= 20; ready++ {
			lookup[fmt.Sprintf("%s/%d", name, ready)] = impl.Hammer{Pitch: int8(pitch), Ready: int8(ready)}
		}
	}
	return lookup
}

func checkReadFrame(t *testing.T, text string, lookup map[string]impl.Hammer) {
	t.Helper()
	read, code := impl.ReadFrame(text)
	wantEqual(t, answers(code, read), modelReadFrame(text, lookup), "read", strconv.Quote(text))
}

func TestModelFrameTexts(t *testing.T) {
	lookup := hammerTexts()
	for text := range lookup {
		for _, steps := range []string{"2 ", "19 ", "20 ", "96 "} {
			checkReadFrame(t, steps+text, lookup)
		}
	}
	for _, f := range validFrames() {
		text := modelFrameText(f)
		wantEqual(t, impl.FrameText(f), text, "text", rawFrame(f))
		checkReadFrame(t, text, lookup)
		if len(text) > 60 {
			continue
		}
		for _, near := range append(nearTexts(text), strings.ReplaceAll(text, "/", ":"), text+" "+text, text+" "+text[2:]) {
			checkReadFrame(t, near, lookup)
		}
	}
	for _, f := range invalidFrames() {
		wantEqual(t, impl.FrameText(f), "", "text", rawFrame(f))
	}
}
