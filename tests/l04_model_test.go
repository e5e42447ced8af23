package tests

import (
	"fmt"
	"math/rand"
	"regexp"
	"slices"
	"sort"
	"strconv"
	"strings"
	"testing"

	"loop.example/g01311/impl"
)

// This file tells chapter 4 once more, by going from step to step and through all orders, and holds the program against it.

// modelProgramme goes through the sections step by step, each of which has to be a step of the drum behind the one before.
func modelProgramme(f impl.Frame, p impl.Programme) bool {
	if !modelFrame(f) || len(p.Sections) > 12 {
		return false
	}
	before := -1
	for _, s := range p.Sections {
		if s.Steps <= 0 {
			return false
		}
		for k := range int(s.Steps) {
			step := int(s.From) + k
			if step <= before || step >= int(f.Steps) {
				return false
			}
			before = step
		}
	}
	for _, index := range p.Order {
		if index != -1 && (index < 0 || int(index) >= len(p.Sections)) {
			return false
		}
	}
	return true
}

// modelQuarters are the texts of all quarters.
func modelQuarters() []string {
	return strings.Fields("12:00 12:15 12:30 12:45 1:00 1:15 1:30 1:45 2:00 2:15 2:30 2:45 3:00 3:15 3:30 3:45 4:00 4:15 4:30 4:45 5:00 5:15 5:30 5:45 6:00 6:15 6:30 6:45 7:00 7:15 7:30 7:45 8:00 8:15 8:30 8:45 9:00 9:15 9:30 9:45 10:00 10:15 10:30 10:45 11:00 11:15 11:30 11:45")
}

func noQuarter(n int64) bool { return n < 0 || n > 47 }

// code tells ErrInvalid where a frame, a drum for it, or a programme for it is none.
func (a chimeArgs) code(withDrum bool) int64 {
	if !modelProgramme(a.f, a.p) || withDrum && !modelDrum(a.f, a.d) {
		return impl.ErrInvalid
	}
	return impl.OK
}

func (a chimeArgs) noSection(n int64) bool { return n < 0 || n >= int64(len(a.p.Sections)) }

func (a chimeArgs) noStep(n int64) bool { return n < 0 || n >= int64(a.f.Steps) }

// spotTune returns the tune of a set of spots, and a code if it would not be valid.
func spotTune(set map[spot]bool) (impl.Tune, int64) {
	var list []spot
	for s := range set {
		list = append(list, s)
		if !s.exists() {
			return nil, impl.ErrLimit
		}
	}
	if len(list) > 120 {
		return nil, impl.ErrLimit
	}
	sort.Slice(list, func(i, j int) bool { return list[j].behind(list[i]) })
	var t impl.Tune
	for _, s := range list {
		t = append(t, impl.Note{At: int16(s.at), Pitch: int8(s.pitch)})
	}
	return t, impl.OK
}

// sectionSpots goes through the steps of a section, and tells where its pins are heard.
func (a chimeArgs) sectionSpots(section int64) map[spot]bool {
	set, pins, s := map[spot]bool{}, placesOf(a.d), a.p.Sections[section]
	for k := range int64(s.Steps) {
		for track, h := range a.f.Hammers {
			if pins[place{int64(s.From) + k, int64(track)}] {
				set[spot{k, int64(h.Pitch)}] = true
			}
		}
	}
	return set
}

// chimeSpots are the spots of a quarter, and how many steps they take.
func (a chimeArgs) chimeSpots(quarter int64) (map[spot]bool, int64) {
	index := int64(a.p.Order[quarter])
	if index < 0 {
		return map[spot]bool{}, 0
	}
	return a.sectionSpots(index), int64(a.p.Sections[index].Steps)
}

func noStroke(hour, pitch, gap int64) bool {
	return hour < 1 || hour > 12 || noPitch(pitch) || gap < 1 || gap > 16
}

func strokeSpots(hour, pitch, gap int64) map[spot]bool {
	set := map[spot]bool{}
	for at := int64(0); hour > 0; hour-- {
		set[spot{at, pitch}] = true
		at += gap
	}
	return set
}

// walkTo goes forward from a step until it is at another one, and tells how many steps it took.
func walkTo(at, to, steps int64) int64 {
	count := int64(0)
	for ; at != to; count++ {
		at++
		if at == steps {
			at = 0
		}
	}
	return count
}

// walkOrder plays sections one behind the other, step by step, and tells how many steps the drum turns.
func walkOrder(list []impl.Section, order []int64, steps int64) int64 {
	var at, count int64
	for _, index := range order {
		s := list[index]
		count += walkTo(at, int64(s.From), steps)
		at = int64(s.From)
		for range s.Steps {
			count++
			at = (at + 1) % steps
		}
	}
	return count
}

// allOrders returns all orders of so many indices, as lists in their order.
func allOrders(count int64) [][]int64 {
	if count == 0 {
		return [][]int64{{}}
	}
	var list [][]int64
	for first := range count {
		for _, rest := range allOrders(count - 1) {
			order := []int64{first}
			for _, index := range rest {
				if index >= first {
					index++
				}
				order = append(order, index)
			}
			list = append(list, order)
		}
	}
	return list
}

// packModel goes from section to section; it returns no list if the drum is too short.
func packModel(lengths []int64, gap, steps int64) []impl.Section {
	list := []impl.Section{}
	free := make([]bool, steps)
	at := int64(0)
	for i, length := range lengths {
		if i > 0 {
			at += gap
		}
		for k := range length {
			if at+k >= int64(len(free)) {
				return nil
			}
		}
		list = append(list, impl.Section{From: int16(at), Steps: int16(length)})
		at += length
	}
	return list
}

func modelProgrammeText(p impl.Programme) string {
	text := ""
	for _, s := range p.Sections {
		text += fmt.Sprintf("%d %d\n", s.From, s.Steps)
	}
	for _, index := range p.Order {
		text += map[bool]string{true: ".", false: string(rune('a' + int(index)))}[index == -1]
	}
	return text + "\n"
}

var programmePattern = regexp.MustCompile(`^((?:(?:0|[1-9][0-9]{0,3}) [1-9][0-9]{0,3}\n){0,12})([.a-l]{48})\n$`)

// modelReadProgramme returns the programme of a text whose form is right.
func modelReadProgramme(text string) (impl.Programme, bool) {
	parts := programmePattern.FindStringSubmatch(text)
	if parts == nil {
		return impl.Programme{}, false
	}
	p := impl.Programme{}
	for _, line := range strings.Split(parts[1], "\n") {
		var s impl.Section
		if n, _ := fmt.Sscan(line, &s.From, &s.Steps); n == 2 {
			p.Sections = append(p.Sections, s)
		}
	}
	for quarter, mark := range parts[2] {
		p.Order[quarter] = int8(strings.Index("abcdefghijkl", string(mark)))
	}
	return p, true
}

// chimeCall is a function of chapter 4: what the program returns, and what the model does.
type chimeCall struct {
	name string
	run  func(a chimeArgs) string
	want func(a chimeArgs) string
}

func chimeCalls() []chimeCall {
	return slices.Concat(callsOfQuarters(), callsOfChimes(), callsOfPlays(), callsOfSteps(), callsOfLaying(), callsOfTurning(), callsOfProgrammes())
}

func callsOfQuarters() []chimeCall {
	return []chimeCall{
		{"QuarterText", func(a chimeArgs) string { return impl.QuarterText(a.k) }, func(a chimeArgs) string {
			if noQuarter(a.k) {
				return ""
			}
			return modelQuarters()[a.k]
		}},
		{"ReadQuarter", func(a chimeArgs) string {
			quarter, c := impl.ReadQuarter(a.text)
			return answers(c, quarter)
		}, func(a chimeArgs) string {
			if index := slices.Index(modelQuarters(), a.text); index >= 0 {
				return answers(impl.OK, index)
			}
			return answers(impl.ErrSyntax, 0)
		}},
		{"StrikeTune", func(a chimeArgs) string {
			t, c := impl.StrikeTune(a.n, a.pitch, a.gap)
			return answers(c, t)
		}, func(a chimeArgs) string {
			if noStroke(a.n, a.pitch, a.gap) {
				return answers(impl.ErrRange, impl.Tune{})
			}
			t, code := spotTune(strokeSpots(a.n, a.pitch, a.gap))
			return answers(code, t)
		}},
	}
}

func callsOfChimes() []chimeCall {
	return []chimeCall{
		{"SectionTune", func(a chimeArgs) string {
			t, c := impl.SectionTune(a.f, a.d, a.p, a.n)
			return answers(c, t)
		}, func(a chimeArgs) string {
			code := a.code(true)
			if code == impl.OK && a.noSection(a.n) {
				code = impl.ErrRange
			}
			if code != impl.OK {
				return answers(code, impl.Tune{})
			}
			t, code := spotTune(a.sectionSpots(a.n))
			return answers(code, t)
		}},
		{"ChimeAt", func(a chimeArgs) string {
			t, c := impl.ChimeAt(a.f, a.d, a.p, a.k)
			return answers(c, t)
		}, func(a chimeArgs) string {
			code := a.code(true)
			if code == impl.OK && noQuarter(a.k) {
				code = impl.ErrRange
			}
			if code != impl.OK {
				return answers(code, impl.Tune{})
			}
			spots, _ := a.chimeSpots(a.k)
			t, code := spotTune(spots)
			return answers(code, t)
		}},
		{"WholeChime", func(a chimeArgs) string {
			t, c := impl.WholeChime(a.f, a.d, a.p, a.k, a.pitch, a.gap)
			return answers(c, t)
		}, modelWholeChime},
	}
}

func modelWholeChime(a chimeArgs) string {
	code := a.code(true)
	if code == impl.OK && (noQuarter(a.k) || noStroke(1, a.pitch, a.gap)) {
		code = impl.ErrRange
	}
	if code != impl.OK {
		return answers(code, impl.Tune{})
	}
	spots, steps := a.chimeSpots(a.k)
	if hour, full := strings.CutSuffix(modelQuarters()[a.k], ":00"); full {
		count, _ := strconv.ParseInt(hour, 10, 64)
		for s := range strokeSpots(count, a.pitch, a.gap) {
			spots[spot{s.at + steps, s.pitch}] = true
		}
	}
	t, code := spotTune(spots)
	return answers(code, t)
}

func callsOfPlays() []chimeCall {
	return []chimeCall{
		{"NextChime", func(a chimeArgs) string {
			next, c := impl.NextChime(a.f, a.p, a.k, a.n)
			return answers(c, next)
		}, func(a chimeArgs) string {
			code := a.code(false)
			if code == impl.OK && (noQuarter(a.k) || a.noSection(a.n)) {
				code = impl.ErrRange
			}
			if code != impl.OK {
				return answers(code, 0)
			}
			twice := append(a.p.Order[:], a.p.Order[:]...)
			index := slices.Index(twice[a.k+1:], int8(a.n))
			if index < 0 {
				return answers(impl.ErrNotFound, 0)
			}
			return answers(impl.OK, (a.k+1+int64(index))%48)
		}},
		{"SilentQuarters", func(a chimeArgs) string {
			list, c := impl.SilentQuarters(a.f, a.p)
			return answers(c, list)
		}, func(a chimeArgs) string {
			list := []int64{}
			for quarter := range int64(48) {
				if a.code(false) == impl.OK && a.p.Order[quarter] < 0 {
					list = append(list, quarter)
				}
			}
			return answers(a.code(false), list)
		}},
		{"CountPlays", func(a chimeArgs) string {
			list, c := impl.CountPlays(a.f, a.p)
			return answers(c, list)
		}, func(a chimeArgs) string {
			list := []int64{}
			for index := range a.p.Sections {
				if a.code(false) != impl.OK {
					break
				}
				list = append(list, 0)
				for _, played := range a.p.Order {
					if int(played) == index {
						list[index]++
					}
				}
			}
			return answers(a.code(false), list)
		}},
	}
}

func callsOfSteps() []chimeCall {
	return []chimeCall{
		{"StepsTo", func(a chimeArgs) string {
			steps, c := impl.StepsTo(a.f, a.p, a.k, a.n)
			return answers(c, steps)
		}, func(a chimeArgs) string {
			code := a.code(false)
			if code == impl.OK && (a.noStep(a.k) || a.noSection(a.n)) {
				code = impl.ErrRange
			}
			if code != impl.OK {
				return answers(code, 0)
			}
			return answers(code, walkTo(a.k, int64(a.p.Sections[a.n].From), int64(a.f.Steps)))
		}},
		{"StepsInDay", func(a chimeArgs) string {
			steps, c := impl.StepsInDay(a.f, a.p)
			return answers(c, steps)
		}, func(a chimeArgs) string {
			if code := a.code(false); code != impl.OK {
				return answers(code, 0)
			}
			var order []int64
			for _, index := range a.p.Order {
				if index >= 0 {
					order = append(order, int64(index))
				}
			}
			return answers(impl.OK, walkOrder(a.p.Sections, order, int64(a.f.Steps)))
		}},
		{"SectionAt", func(a chimeArgs) string {
			section, c := impl.SectionAt(a.f, a.p, a.n)
			return answers(c, section)
		}, func(a chimeArgs) string {
			code := a.code(false)
			if code == impl.OK && a.noStep(a.n) {
				code = impl.ErrRange
			}
			if code != impl.OK {
				return answers(code, 0)
			}
			for index, s := range a.p.Sections {
				for k := range s.Steps {
					if int64(s.From+k) == a.n {
						return answers(impl.OK, index)
					}
				}
			}
			return answers(impl.ErrNotFound, 0)
		}},
		{"LeastStepsOrder", func(a chimeArgs) string {
			order, steps, c := impl.LeastStepsOrder(a.f, a.p)
			return answers(c, order, steps)
		}, func(a chimeArgs) string {
			code := a.code(false)
			if code == impl.OK && len(a.p.Sections) > 6 {
				code = impl.ErrLimit
			}
			if code != impl.OK {
				return answers(code, []int64{}, 0)
			}
			orders := allOrders(int64(len(a.p.Sections)))
			walk := func(order []int64) int64 { return walkOrder(a.p.Sections, order, int64(a.f.Steps)) }
			best := orders[0]
			for _, order := range orders {
				if walk(order) < walk(best) || walk(order) == walk(best) && slices.Compare(order, best) < 0 {
					best = order
				}
			}
			return answers(code, best, walk(best))
		}},
	}
}

func callsOfLaying() []chimeCall {
	return []chimeCall{
		{"PackSections", func(a chimeArgs) string {
			list, c := impl.PackSections(a.f, a.lengths, a.gap)
			return answers(c, list)
		}, func(a chimeArgs) string {
			none := []impl.Section{}
			if !modelFrame(a.f) {
				return answers(impl.ErrInvalid, none)
			}
			bad := func(n int64) bool { return n < 1 || n > 96 }
			if len(a.lengths) > 12 || slices.ContainsFunc(a.lengths, bad) || a.gap < 0 || a.gap > 96 {
				return answers(impl.ErrRange, none)
			}
			list := packModel(a.lengths, a.gap, int64(a.f.Steps))
			if list == nil {
				return answers(impl.ErrLimit, none)
			}
			return answers(impl.OK, list)
		}},
		{"LayTunes", func(a chimeArgs) string {
			list, t, c := impl.LayTunes(a.f, a.tunes, a.gap)
			return answers(c, list, t)
		}, modelLayTunes},
	}
}

func modelLayTunes(a chimeArgs) string {
	code := int64(impl.OK)
	if !modelFrame(a.f) || slices.ContainsFunc(a.tunes, func(t impl.Tune) bool { return !modelValid(t) }) {
		code = impl.ErrInvalid
	} else if len(a.tunes) > 12 || a.gap < 0 || a.gap > 96 {
		code = impl.ErrRange
	}
	if code != impl.OK {
		return answers(code, []impl.Section{}, impl.Tune{})
	}
	var lengths []int64
	for _, t := range a.tunes {
		lengths = append(lengths, max(1, modelLength(t)))
	}
	list := packModel(lengths, a.gap, int64(a.f.Steps))
	if list == nil {
		return answers(impl.ErrLimit, []impl.Section{}, impl.Tune{})
	}
	spots := map[spot]bool{}
	for i, t := range a.tunes {
		for _, s := range spotsOf(t) {
			spots[spot{s.at + int64(list[i].From), s.pitch}] = true
		}
	}
	t, code := spotTune(spots)
	if code != impl.OK {
		list = []impl.Section{}
	}
	return answers(code, list, t)
}

func callsOfTurning() []chimeCall {
	return []chimeCall{
		{"TurnProgramme", func(a chimeArgs) string {
			p, c := impl.TurnProgramme(a.f, a.p, a.n)
			return answers(c, rawProgramme(p))
		}, func(a chimeArgs) string {
			code := a.code(false)
			if code == impl.OK && a.noStep(a.n) {
				code = impl.ErrRange
			}
			if code != impl.OK {
				return answers(code, rawProgramme(impl.Programme{}))
			}
			p, ok := modelTurned(a.f, a.p, a.n)
			if !ok {
				return answers(impl.ErrState, rawProgramme(impl.Programme{}))
			}
			return answers(impl.OK, rawProgramme(p))
		}},
	}
}

// modelTurned moves the first steps of all sections, and looks for them step by step.
func modelTurned(f impl.Frame, p impl.Programme, by int64) (impl.Programme, bool) {
	begins := map[int64]int{}
	for index, s := range p.Sections {
		from := (int64(s.From) + by) % int64(f.Steps)
		if from+int64(s.Steps) > int64(f.Steps) {
			return impl.Programme{}, false
		}
		begins[from] = index
	}
	turned, now := programme(""), map[int8]int8{}
	for step := range int64(f.Steps) {
		if index, begun := begins[step]; begun {
			now[int8(index)] = int8(len(turned.Sections))
			turned.Sections = append(turned.Sections, impl.Section{From: int16(step), Steps: p.Sections[index].Steps})
		}
	}
	for quarter, index := range p.Order {
		if other, there := now[index]; there {
			turned.Order[quarter] = other
		}
	}
	return turned, true
}

func callsOfProgrammes() []chimeCall {
	return []chimeCall{
		{"ValidProgramme", func(a chimeArgs) string { return fmt.Sprint(impl.ValidProgramme(a.f, a.p)) },
			func(a chimeArgs) string { return fmt.Sprint(modelProgramme(a.f, a.p)) }},
		{"SameProgramme", func(a chimeArgs) string { return fmt.Sprint(impl.SameProgramme(a.p, a.q)) },
			func(a chimeArgs) string { return fmt.Sprint(rawProgramme(a.p) == rawProgramme(a.q)) }},
		{"ProgrammeText", func(a chimeArgs) string { return impl.ProgrammeText(a.f, a.p) }, func(a chimeArgs) string {
			if a.code(false) != impl.OK {
				return ""
			}
			return modelProgrammeText(a.p)
		}},
		{"ReadProgramme", func(a chimeArgs) string {
			p, c := impl.ReadProgramme(a.f, a.text)
			return answers(c, rawProgramme(p))
		}, func(a chimeArgs) string {
			if !modelFrame(a.f) {
				return answers(impl.ErrInvalid, rawProgramme(impl.Programme{}))
			}
			p, ok := modelReadProgramme(a.text)
			if !ok || !modelProgramme(a.f, p) {
				return answers(impl.ErrSyntax, rawProgramme(impl.Programme{}))
			}
			return answers(impl.OK, rawProgramme(p))
		}},
	}
}

func checkChime(t *testing.T, c chimeCall, a chimeArgs) string {
	t.Helper()
	got, want := c.run(a), c.want(a)
	if got != want {
		t.Errorf("%s: %s: got %q, want %q", c.name, a, got, want)
	}
	return got
}

// chimeCallsNamed are those of some functions.
func chimeCallsNamed(names string) []chimeCall {
	return slices.DeleteFunc(chimeCalls(), func(c chimeCall) bool {
		return !slices.Contains(strings.Fields(names), c.name)
	})
}

// TestModelChimes asks also that each function has told a result, and each of its errors, often enough.
func TestModelChimes(t *testing.T) {
	found := map[string]int{}
	random := rand.New(rand.NewSource(61))
	for range 4000 {
		a := randomChimes(random)
		for _, c := range chimeCalls() {
			first, _, _ := strings.Cut(checkChime(t, c, a), ";")
			found[c.name+" "+first]++
		}
	}
	for _, what := range []string{
		"SectionTune ok", "SectionTune range", "ChimeAt ok", "WholeChime ok", "WholeChime range", "WholeChime limit",
		"NextChime ok", "NextChime range", "NextChime notfound", "SilentQuarters ok", "CountPlays ok",
		"StepsTo ok", "StepsTo range", "StepsInDay ok", "SectionAt ok", "SectionAt range", "SectionAt notfound",
		"PackSections ok", "PackSections limit", "LayTunes ok", "LayTunes limit",
		"TurnProgramme ok", "TurnProgramme state", "TurnProgramme range", "LeastStepsOrder ok", "LeastStepsOrder limit",
		"ReadQuarter ok", "ReadQuarter syntax", "ReadProgramme ok", "ReadProgramme syntax", "StrikeTune ok", "StrikeTune range",
	} {
		if found[what] < 50 {
			t.Errorf("the tests look at too few cases of %s: %d", what, found[what])
		}
	}
}

// chimesOf are arguments with a frame and programmes that are valid for it, or not.
func chimesOf(f impl.Frame) []chimeArgs {
	small := frame(8, 24, 1)
	list, drums := programmesFor(small), chimeDrums(small)
	if modelFrame(f) {
		list, drums = slices.Concat(list, programmesFor(f), invalidProgrammesFor(f)), chimeDrums(f)
	}
	var all []chimeArgs
	for i, p := range list {
		for j, d := range append(drums, impl.Drum{95: 1}, impl.Drum{0: 1 << len(f.Hammers)}) {
			a := chimeArgs{f: f, d: d, p: p, q: list[j], n: int64(i % 5), k: int64(i * 7 % 48), pitch: 24, gap: int64(1 + j%3)}
			a.lengths, a.tunes, a.text = []int64{2, int64(j)}, []impl.Tune{notes(0, 24, 2, 24), nil}, modelProgrammeText(p)
			all = append(all, a)
		}
	}
	return all
}

// TestModelChimeFrames goes through frames, drums and programmes that are valid or not.
func TestModelChimeFrames(t *testing.T) {
	played := chimeCallsNamed("SectionTune ChimeAt WholeChime")
	for _, f := range slices.Concat(chimeFrames(), invalidFrames()) {
		for i, a := range chimesOf(f) {
			for _, c := range played {
				checkChime(t, c, a)
			}
			// All functions that have no drum are asked with one drum alone.
			for _, c := range chimeCalls() {
				if i%7 == 0 {
					checkChime(t, c, a)
				}
			}
		}
	}
}

func TestModelChimeTunes(t *testing.T) {
	calls := chimeCallsNamed("LayTunes")
	tunes := allTunes()
	for i, u := range tunes {
		for _, f := range []impl.Frame{frame(96, 24, 1), frame(40, 24, 1), frame(97, 24, 1)} {
			for _, gap := range []int64{-1, 0, 1, 40, 96, 97} {
				for _, list := range [][]impl.Tune{{u}, {u, nil}, {nil, u}, {u, u}, {u, tunes[(i*7+3)%len(tunes)]}, slices.Repeat([]impl.Tune{u}, 12), slices.Repeat([]impl.Tune{u}, 13)} {
					checkChime(t, calls[0], chimeArgs{f: f, tunes: list, gap: gap})
				}
			}
		}
	}
}

// TestModelChimeNumbers goes through pairs of numbers that are limits, or far away.
func TestModelChimeNumbers(t *testing.T) {
	f := frame(96, 24, 1, 28, 2)
	d := spacedDrum(f, 0, 0)
	few, most := programme("ab.c", 0, 3, 3, 20, 90, 6), programme("abcdefghijkl")
	most.Sections = manySections(12, 84, 1)
	few.Order[47], few.Order[46], few.Order[44] = 2, 1, 0
	calls := chimeCallsNamed("QuarterText SectionTune ChimeAt StrikeTune WholeChime NextChime StepsTo SectionAt PackSections LayTunes TurnProgramme")
	for i, n := range chimeNumbers() {
		for j, k := range chimeNumbers() {
			p := []impl.Programme{few, most}[(i+j)%2]
			a := chimeArgs{f: f, d: d, p: p, q: p, n: n, k: k, pitch: k, gap: n, lengths: []int64{1, n}, tunes: []impl.Tune{{}, {}}}
			b := chimeArgs{f: f, d: d, p: p, q: p, n: 12, k: n, pitch: 47, gap: k, lengths: []int64{n, k}}
			c := chimeArgs{f: f, d: d, p: p, q: p, n: n, k: 47, pitch: k, gap: 16, lengths: []int64{k}}
			for _, call := range calls {
				checkChime(t, call, a)
				checkChime(t, call, b)
				checkChime(t, call, c)
			}
		}
	}
}

// sectionLists returns all lists of sections that a small drum can have.
func sectionLists(from, steps int) [][]impl.Section {
	list := [][]impl.Section{{}}
	for begin := from; begin < steps; begin++ {
		for end := begin + 1; end <= steps; end++ {
			for _, rest := range sectionLists(end, steps) {
				first := []impl.Section{{From: int16(begin), Steps: int16(end - begin)}}
				list = append(list, append(first, rest...))
			}
		}
	}
	return list
}

// TestModelSmallDrums goes through all sections of small drums: all turns, all orders, and all steps.
func TestModelSmallDrums(t *testing.T) {
	for steps := 2; steps <= 6; steps++ {
		f := frame(steps, 24, 1, 25, 1)
		for i, list := range sectionLists(0, steps) {
			p := programme("")
			p.Sections = list
			for quarter := range p.Order {
				p.Order[quarter] = int8((quarter*quarter+i)%(len(list)+1)) - 1
			}
			for n := int64(-1); n <= int64(steps); n++ {
				a := chimeArgs{f: f, d: pinned(0, 0, 1, 1, steps-1, 0), p: p, q: p, n: n, pitch: 24, gap: 1, text: modelProgrammeText(p)}
				for a.k = range int64(steps + 1) {
					for _, c := range chimeCallsNamed("SectionTune ChimeAt WholeChime StepsTo StepsInDay SectionAt TurnProgramme") {
						checkChime(t, c, a)
					}
				}
				if n == 0 {
					for _, c := range chimeCallsNamed("LeastStepsOrder ValidProgramme ReadProgramme ProgrammeText CountPlays SilentQuarters") {
						checkChime(t, c, a)
					}
				}
			}
		}
	}
}

// nearProgrammes are texts that differ from one by a character, and more that are almost right.
func nearProgrammes(text string) []string {
	list := append(nearTexts(text), strings.TrimSuffix(text, "\n"), text+"\n", "\n"+text, " "+text, text+" ", text+text, "", "\n", "\n\n")
	for _, change := range [][2]string{{"\n", "\r\n"}, {"\n", "\n\n"}, {"\n", " \n"}, {"\n", "\n "}, {" ", "  "}, {" ", "\t"}, {" ", " 0"}, {" ", " +"}, {" ", " -"}, {" ", "\n"}, {"\n", " "}, {".", "-"}, {".", "`"}, {".", "A"}, {"a", "A"}, {"a", "m"}, {"a", "z"}, {"a", "\xe1"}, {".", "\u00e9"}} {
		list = append(list, strings.ReplaceAll(text, change[0], change[1]), strings.Replace(text, change[0], change[1], 1))
	}
	for _, line := range []string{"00 1", "01 1", "0 01", "+0 1", "0 +1", "-0 1", "0 1 ", " 0 1", "0  1", "0\t1", "0 1\r", "0", "0 ", " 1", "", "0 1 1", "0x0 1", "0 1_0", "0 65537", "65536 1", "0 9223372036854775808", "a 1", "0 a"} {
		list = append(list, line+"\n"+text, strings.Replace(text, "\n", "\n"+line+"\n", 1))
	}
	return list
}

func TestModelProgrammeTexts(t *testing.T) {
	read := chimeCallsNamed("ReadProgramme")[0]
	found := map[string]int{}
	for _, f := range []impl.Frame{frame(8, 24, 1), frame(96, 24, 1), frame(2, 24, 2)} {
		for i, p := range slices.Concat(programmesFor(f), invalidProgrammesFor(f)) {
			text := modelProgrammeText(p)
			texts := []string{text}
			if i%6 == 1 || len(text) < 53 {
				texts = append(texts, nearProgrammes(text)...)
			}
			for _, near := range texts {
				got, _, _ := strings.Cut(checkChime(t, read, chimeArgs{f: f, text: near}), ";")
				found[got]++
			}
		}
	}
	if found["ok"] < 100 || found["syntax"] < 1000 {
		t.Errorf("the tests look at too few texts: %v", found)
	}
}

func TestModelQuarterTexts(t *testing.T) {
	read := chimeCallsNamed("ReadQuarter")[0]
	for _, text := range append(modelQuarters(), "", ":", "0:00", "13:00", "24:00", "12:60", "00:00", "01:00", "1:5", "1:05", "1:0", "112:00", "-1:00", "+1:00", "12:00 ", " 12:00", "12:00\n", "12 :00", "12.00", "1:00 1:00") {
		checkChime(t, read, chimeArgs{text: text})
		for _, near := range nearTexts(text) {
			checkChime(t, read, chimeArgs{text: near})
		}
	}
}
