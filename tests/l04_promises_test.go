package tests

import (
	"fmt"
	"math"
	"math/rand"
	"slices"
	"strings"
	"testing"

	"loop.example/g01311/impl"
)

// spareChimes returns arguments with spare capacity behind each slice, and a function that shows all of their memory.
func spareChimes(a chimeArgs) (chimeArgs, func() string) {
	var hammers []impl.Hammer
	var one, two []impl.Section
	var lengths []int64
	var tunes []impl.Tune
	a.f, hammers = spareFrame(a.f)
	a.p.Sections, one = withSpareRoom(a.p.Sections, impl.Section{From: -9, Steps: -9})
	a.q.Sections, two = withSpareRoom(a.q.Sections, impl.Section{From: -8, Steps: -8})
	a.lengths, lengths = withSpareRoom(a.lengths, -9)
	wholes := []impl.Tune{}
	a.tunes, tunes = withSpareRoom(a.tunes, impl.Tune{{At: -9, Pitch: -9}})
	for i, t := range a.tunes {
		var whole impl.Tune
		a.tunes[i], whole = withSpare(t)
		wholes = append(wholes, whole)
	}
	return a, func() string { return fmt.Sprint(hammers, one, two, lengths, tunes, wholes) }
}

// bareChimes returns arguments without spare capacity, and in other memory.
func bareChimes(a chimeArgs) chimeArgs {
	a.f.Hammers = slices.Clip(slices.Clone(a.f.Hammers))
	a.p.Sections, a.q.Sections = slices.Clip(slices.Clone(a.p.Sections)), slices.Clip(slices.Clone(a.q.Sections))
	a.lengths = slices.Clip(slices.Clone(a.lengths))
	a.tunes = slices.Clip(slices.Clone(a.tunes))
	for i, t := range a.tunes {
		a.tunes[i] = slices.Clip(slices.Clone(t))
	}
	return a
}

// chimesForPurity are random arguments, and some that are not valid.
func chimesForPurity() []chimeArgs {
	var list []chimeArgs
	random := rand.New(rand.NewSource(71))
	for range 300 {
		a := randomChimes(random)
		a.gap = max(a.gap, 1)
		list = append(list, a)
	}
	for _, f := range append(chimeFrames()[:4], invalidFrames()...) {
		for i, p := range append(programmesFor(frame(8, 24, 1))[:5], invalidProgrammesFor(frame(8, 24, 1))...) {
			list = append(list, chimeArgs{f: f, d: impl.Drum{0: 1}, p: p, q: p, n: 0, k: int64(i), pitch: 24, gap: 1, lengths: []int64{1, 1}, tunes: []impl.Tune{notes(0, 24), {}}, text: modelProgrammeText(p)})
		}
	}
	return list
}

func TestP1ChimesPure(t *testing.T) {
	for _, a := range chimesForPurity() {
		spare, shown := spareChimes(a)
		bare, before := bareChimes(a), shown()
		for _, c := range chimeCalls() {
			first := c.run(spare)
			wantEqual(t, c.run(spare), first, c.name, "twice", a)
			wantEqual(t, c.run(bare), first, c.name, "with no spare capacity", a)
			wantEqual(t, shown(), before, c.name, "left its arguments", a)
		}
	}
}

func TestP1ChimesNilOrEmpty(t *testing.T) {
	none := chimeArgs{f: mustReadFrame(t, chimeFrame), p: programme(""), q: programme(""), n: 1, pitch: 24, gap: 1}
	empty := none
	empty.p.Sections, empty.q.Sections = []impl.Section{}, make([]impl.Section, 0, 5)
	empty.lengths, empty.tunes = []int64{}, make([]impl.Tune, 0, 5)
	for _, c := range chimeCalls() {
		wantEqual(t, c.run(empty), c.run(none), c.name, "of nil and empty")
	}
	none.tunes, empty.tunes = []impl.Tune{nil, nil}, []impl.Tune{{}, make(impl.Tune, 0, 5)}
	for _, c := range chimeCallsNamed("LayTunes") {
		wantEqual(t, c.run(empty), c.run(none), c.name, "of nil and empty tunes")
	}
}

// chimeLists has each function of chapter 4 that returns a slice.
func chimeLists(a chimeArgs) []listOf {
	part, _ := impl.SectionTune(a.f, a.d, a.p, 0)
	chime, _ := impl.ChimeAt(a.f, a.d, a.p, a.k)
	strokes, _ := impl.StrikeTune(1+a.k%12, a.pitch, a.gap)
	whole, _ := impl.WholeChime(a.f, a.d, a.p, a.k, a.pitch, a.gap)
	silent, _ := impl.SilentQuarters(a.f, a.p)
	plays, _ := impl.CountPlays(a.f, a.p)
	packed, _ := impl.PackSections(a.f, a.lengths, 0)
	laid, all, _ := impl.LayTunes(a.f, a.tunes, 0)
	turned, _ := impl.TurnProgramme(a.f, a.p, 0)
	order, _, _ := impl.LeastStepsOrder(a.f, a.p)
	read, _ := impl.ReadProgramme(a.f, a.text)
	note, section := impl.Note{At: 77, Pitch: 77}, impl.Section{From: 77, Steps: 77}
	list := []listOf{
		listOfSlice(part, note),
		listOfSlice(chime, note),
		listOfSlice(strokes, note),
		listOfSlice(whole, note),
		listOfSlice(silent, 77),
		listOfSlice(plays, 77),
		listOfSlice(packed, section),
		listOfSlice(laid, section),
		listOfSlice(all, note),
		listOfSlice(turned.Sections, section),
		listOfSlice(order, 77),
		listOfSlice(read.Sections, section),
	}
	for _, t := range a.tunes {
		_, one, _ := impl.LayTunes(a.f, []impl.Tune{t}, 0)
		list = append(list, listOfSlice(one, note))
	}
	return list
}

func TestP1ChimesShareNoMemory(t *testing.T) {
	for _, a := range chimesForPurity() {
		spare, shown := spareChimes(a)
		checkLists(t, func() []listOf { return chimeLists(spare) }, shown)
	}
}

// checkChimeCode asks for an error with zero values beside it.
func checkChimeCode(t *testing.T, c chimeCall, a chimeArgs, want string) {
	t.Helper()
	got := c.run(a)
	if zeros := strings.NewReplacer("0", "", "[]", "", "[ ]", "", ";", "", " ", "", "[", "", "]", "").Replace(got); zeros != want {
		t.Errorf("%s: %s: got %s, want %s and zero values", c.name, a, got, want)
	}
}

const (
	playingCalls   = "SectionTune ChimeAt WholeChime"
	programmeCalls = playingCalls + " NextChime SilentQuarters CountPlays StepsTo StepsInDay SectionAt TurnProgramme LeastStepsOrder"
)

func TestP1ChimesInvalidFirst(t *testing.T) {
	good, crowd := programme("a", 0, 1), programme("")
	crowd.Sections = manySections(7, 0, 1)
	for _, n := range []int64{0, -1, 1, 48, math.MinInt64, math.MaxInt64} {
		far := chimeArgs{n: n, k: n, pitch: n, gap: n, lengths: []int64{n, 97}, tunes: slices.Repeat([]impl.Tune{notes(199, 24)}, 13), text: "no programme"}
		for _, f := range invalidFrames() {
			far.f = f
			for _, far.p = range []impl.Programme{good, programme(""), crowd, {}} {
				for _, c := range chimeCallsNamed(programmeCalls + " PackSections LayTunes ReadProgramme") {
					checkChimeCode(t, c, far, "invalid")
				}
			}
		}
		for _, far.f = range chimeFrames() {
			for _, far.p = range invalidProgrammesFor(far.f) {
				for _, far.d = range []impl.Drum{{}, fullDrum(far.f)} {
					for _, c := range chimeCallsNamed(programmeCalls) {
						checkChimeCode(t, c, far, "invalid")
					}
				}
			}
			for _, far.p = range []impl.Programme{good, programme("")} {
				for _, far.d = range invalidDrumsFor(far.f) {
					for _, c := range chimeCallsNamed(playingCalls) {
						checkChimeCode(t, c, far, "invalid")
					}
				}
			}
			for _, u := range invalidTunes() {
				for _, place := range []int{0, 6, 12} {
					bad := far
					bad.tunes = slices.Clone(far.tunes)
					bad.tunes[place] = u
					checkChimeCode(t, chimeCallsNamed("LayTunes")[0], bad, "invalid")
				}
			}
		}
	}
}

// TestP1ChimesRangeNext asks for ErrRange where an error that comes behind it could be told.
func TestP1ChimesRangeNext(t *testing.T) {
	f := likeHammers(96, 24, 0, 2, 20)
	a := chimeArgs{f: f, d: fullDrum(f), p: programme(strings.Repeat("a", 48), 0, 96)}
	for _, n := range []int64{-1, 96, 97, 256, 1 << 32, math.MinInt64, math.MaxInt64} {
		a.n, a.k, a.pitch, a.gap = n, n, n, n
		for _, c := range chimeCallsNamed("SectionTune ChimeAt WholeChime NextChime StepsTo SectionAt TurnProgramme") {
			checkChimeCode(t, c, a, "range")
		}
		for _, b := range []chimeArgs{{k: n, pitch: 24, gap: 1}, {pitch: n, gap: 1}, {k: 1, pitch: n, gap: 1}, {pitch: 24, gap: n}, {k: 1, pitch: 24, gap: n}} {
			b.f, b.d, b.p = a.f, a.d, a.p
			checkChimeCode(t, chimeCallsNamed("WholeChime")[0], b, "range")
		}
		if n != 96 {
			a.lengths, a.tunes = []int64{96, 96}, []impl.Tune{notes(95, 24), notes(199, 24)}
			checkChimeCode(t, chimeCallsNamed("PackSections")[0], a, "range")
			checkChimeCode(t, chimeCallsNamed("LayTunes")[0], a, "range")
			a.gap, a.lengths = 0, []int64{96, 96, n}
			checkChimeCode(t, chimeCallsNamed("PackSections")[0], a, "range")
		}
	}
	a.gap, a.lengths, a.tunes = 0, slices.Repeat([]int64{96}, 13), slices.Repeat([]impl.Tune{notes(95, 24)}, 13)
	for _, c := range chimeCallsNamed("PackSections LayTunes") {
		checkChimeCode(t, c, a, "range")
		a.lengths, a.tunes = a.lengths[1:], a.tunes[1:]
		checkChimeCode(t, c, a, "limit")
		a.lengths, a.tunes = append(a.lengths, 96), append(a.tunes, notes(95, 24))
	}
}

func TestP1ChimesGreat(t *testing.T) {
	const size = 1000000
	good := chimeArgs{f: frame(8, 24, 3), p: programme("a", 0, 1), pitch: 24, gap: 1}
	great := good
	great.f.Hammers = slices.Repeat([]impl.Hammer{{Pitch: 24, Ready: 3}}, size)
	for _, c := range chimeCallsNamed(programmeCalls + " PackSections LayTunes ReadProgramme") {
		wantEqual(t, strings.HasPrefix(c.run(great), "invalid;"), true, c.name, "for a great frame")
	}
	for _, s := range []impl.Section{{From: 0, Steps: 1}, {From: 0, Steps: 0}, {From: math.MaxInt16, Steps: math.MaxInt16}} {
		great = good
		great.p.Sections = slices.Repeat([]impl.Section{s}, size)
		for _, c := range chimeCallsNamed(programmeCalls) {
			wantEqual(t, strings.HasPrefix(c.run(great), "invalid;"), true, c.name, "of a great programme")
		}
		wantEqual(t, impl.ValidProgramme(great.f, great.p), false, "a great programme is not valid")
		wantEqual(t, impl.ProgrammeText(great.f, great.p), "", "text of a great programme")
		other := impl.Programme{Sections: slices.Clone(great.p.Sections), Order: great.p.Order}
		wantEqual(t, impl.SameProgramme(great.p, other), true, "great programmes that are equal")
		other.Sections[size-1].Steps--
		wantEqual(t, impl.SameProgramme(great.p, other), false, "great programmes that differ in the last section")
	}
	for _, length := range []int64{0, 1, 96, 97, math.MaxInt64, math.MinInt64} {
		list, code := impl.PackSections(good.f, slices.Repeat([]int64{length}, size), 0)
		wantEqual(t, shown(t, code, list), "[range]", "a great list of lengths", length)
	}
	for _, c := range []struct {
		tunes []impl.Tune
		want  string
	}{
		{make([]impl.Tune, size), "[range]"},
		{append(make([]impl.Tune, size-1), notes(0, 48)), "[invalid]"},
		{[]impl.Tune{row(size, 0, 0, 0, 0)}, "[invalid]"},
	} {
		list, tune, code := impl.LayTunes(good.f, c.tunes, 0)
		wantEqual(t, shown(t, code, list, tune), c.want, "great tunes", len(c.tunes))
	}
}

func TestP1ChimesGreatTexts(t *testing.T) {
	const size = 1000000
	f := frame(96, 24, 3)
	for _, part := range []string{" ", "\n", "0", ".", "a", "0 1\n", "0 1", silence, silence + "\n", "\xff", "-", "1:00", ":", " \n", ".\n"} {
		text := strings.Repeat(part, size/len(part))
		for _, text := range []string{text, "0 1\n" + text, text + silence + "\n", silence + text + "\n", text + "0 1\n" + silence + "\n", "0 " + text + "\n" + silence + "\n"} {
			read, code := impl.ReadProgramme(f, text)
			wantProgramme(t, read, code, "[syntax]", "read", part, "again and again")
			quarter, code := impl.ReadQuarter(text)
			wantEqual(t, shown(t, code, quarter), "[syntax]", "read", part, "again and again")
		}
	}
}

// chimeSubjects are frames with drums and programmes: edges, and random ones.
func chimeSubjects() []chimeArgs {
	var list []chimeArgs
	for _, f := range chimeFrames() {
		drums := chimeDrums(f)
		for i, p := range programmesFor(f) {
			list = append(list, chimeArgs{f: f, d: drums[i%len(drums)], p: p}, chimeArgs{f: f, d: drums[(i+2)%len(drums)], p: p})
		}
	}
	random := rand.New(rand.NewSource(72))
	for range 400 {
		list = append(list, randomChimes(random))
	}
	return list
}

// heardIn tells what a section plays: the cut of what the drum plays, as far as this is a tune, and the pins of its steps otherwise.
func heardIn(t *testing.T, a chimeArgs, s impl.Section) string {
	t.Helper()
	if tune, code := impl.TuneOf(a.f, a.d); code == impl.OK {
		part, code := impl.CutTune(tune, int64(s.From), int64(s.From)+int64(s.Steps))
		return answers(code, part)
	}
	var list []impl.Note
	for step := range int64(s.Steps) {
		for track, h := range a.f.Hammers {
			has, code := impl.HasPin(a.f, a.d, int64(s.From)+step, int64(track))
			wantEqual(t, code, impl.OK, "has a pin")
			if n := (impl.Note{At: int16(step), Pitch: h.Pitch}); has {
				list = append(list, n)
			}
		}
	}
	tune, code := impl.MakeTune(list)
	return answers(code, tune)
}

func TestP9PlayedIsItsSection(t *testing.T) {
	found := map[string]int{}
	for _, a := range chimeSubjects() {
		var bySection []string
		for index, s := range a.p.Sections {
			tune, code := impl.SectionTune(a.f, a.d, a.p, int64(index))
			wantEqual(t, answers(code, tune), heardIn(t, a, s), "what the section plays", a)
			bySection = append(bySection, answers(code, tune))
			found[impl.CodeName(code)]++
		}
		for quarter := range int64(impl.Quarters) {
			want := answers(impl.OK, impl.Tune{})
			if index := a.p.Order[quarter]; index >= 0 {
				want = bySection[index]
				found["played"]++
			}
			chime, code := impl.ChimeAt(a.f, a.d, a.p, quarter)
			wantEqual(t, answers(code, chime), want, "what is played at", quarter, a)
		}
	}
	if found["ok"] < 500 || found["limit"] < 30 || found["played"] < 5000 {
		t.Errorf("the tests look at too few cases: %v", found)
	}
}

// TestP9WholeChimes asks that the chime comes first, as it is without the hour, and then the strokes of a full hour.
func TestP9WholeChimes(t *testing.T) {
	found := map[string]int{}
	for i, a := range chimeSubjects() {
		pitch, gap := int64(i%48), int64(1+i%16)
		for quarter := range int64(impl.Quarters) {
			whole, code := impl.WholeChime(a.f, a.d, a.p, quarter, pitch, gap)
			found[impl.CodeName(code)]++
			chime, one := impl.ChimeAt(a.f, a.d, a.p, quarter)
			if one != impl.OK || quarter%4 != 0 {
				wantEqual(t, answers(code, whole), answers(one, chime), "not at a full hour", quarter, a)
				continue
			}
			strokes, steps := quarter/4, int64(0)
			if index := a.p.Order[quarter]; index >= 0 {
				steps = int64(a.p.Sections[index].Steps)
			}
			if strokes == 0 {
				strokes = 12
			}
			if fits := steps+(strokes-1)*gap < impl.MaxAt && len(chime)+int(strokes) <= impl.MaxNotes; !fits {
				wantEqual(t, answers(code, whole), answers(impl.ErrLimit, impl.Tune{}), "too long, or too many", quarter, a)
				continue
			}
			for stroke := range strokes {
				chime = append(chime, impl.Note{At: int16(steps + stroke*gap), Pitch: int8(pitch)})
			}
			wantEqual(t, answers(code, whole), answers(impl.OK, chime), "chime and strokes", quarter, a)
		}
	}
	if found["ok"] < 5000 || found["limit"] < 300 {
		t.Errorf("the tests look at too few cases: %v", found)
	}
}

// TestP9TurnedTogether turns a drum and its programme by as many steps: each quarter plays as before.
func TestP9TurnedTogether(t *testing.T) {
	turns := 0
	for _, a := range chimeSubjects() {
		for by := range int64(a.f.Steps) {
			p, code := impl.TurnProgramme(a.f, a.p, by)
			// All turns of small drums, and a few of great ones, are enough.
			if by > 12 && by%16 != 0 || code != impl.OK {
				continue
			}
			d, code := impl.TurnDrum(a.f, a.d, by)
			wantEqual(t, code, impl.OK, "turned drum")
			for quarter := range int64(impl.Quarters) {
				before, one := impl.ChimeAt(a.f, a.d, a.p, quarter)
				behind, two := impl.ChimeAt(a.f, d, p, quarter)
				wantEqual(t, answers(two, behind), answers(one, before), "turned by", by, "at", quarter, a)
				turns++
			}
		}
	}
	if turns < 50000 {
		t.Errorf("the tests look at too few turns: %d", turns)
	}
}

// TestP9Plays goes from each play of a section to the next one: these are all its plays, and silent are the other quarters.
func TestP9Plays(t *testing.T) {
	for _, a := range chimeSubjects() {
		silent, one := impl.SilentQuarters(a.f, a.p)
		plays, two := impl.CountPlays(a.f, a.p)
		wantEqual(t, fmt.Sprint(one, two, len(plays)), fmt.Sprint(0, 0, len(a.p.Sections)), "plays", a)
		count := len(silent)
		for index, want := range plays {
			at := map[int64]bool{}
			next, code := impl.NextChime(a.f, a.p, int64(impl.Quarters)-1, int64(index))
			for code == impl.OK && !at[next] {
				wantEqual(t, int(a.p.Order[next]), index, "the section is played", next, a)
				at[next] = true
				next, code = impl.NextChime(a.f, a.p, next, int64(index))
			}
			wantEqual(t, int64(len(at)), want, "goes through all plays of", index, a)
			count += len(at)
		}
		wantEqual(t, count, impl.Quarters, "each quarter is played, or silent", a)
		for _, quarter := range silent {
			wantEqual(t, a.p.Order[quarter], -1, "silent", a)
		}
	}
}

// checkLaid asks that sections have their lengths and gaps, do not overlap, and are on the drum.
func checkLaid(t *testing.T, f impl.Frame, list []impl.Section, lengths []int64, gap int64) {
	t.Helper()
	p := programme("")
	p.Sections = list
	wantEqual(t, impl.ValidProgramme(f, p), true, "laid sections are valid", rawFrame(f), list)
	wantEqual(t, len(list), len(lengths), "a section for each length")
	free, taken, end := 0, 0, int64(0)
	for step := range int64(f.Steps) {
		if _, code := impl.SectionAt(f, p, step); code == impl.ErrNotFound {
			free++
		}
	}
	for i, s := range list {
		wantEqual(t, int64(s.Steps), lengths[i], "length", list)
		wantEqual(t, int64(s.From), end, "begins a gap behind the one before", list)
		end = int64(s.From) + int64(s.Steps) + gap
		taken += int(s.Steps)
	}
	wantEqual(t, free+taken, int(f.Steps), "each step is in one section at most", list)
}

func TestP10PackedDoNotOverlap(t *testing.T) {
	found := map[int64]int{}
	random := rand.New(rand.NewSource(73))
	for range 6000 {
		steps := 2 + random.Intn(95)
		f := frame(steps, 24, 1)
		var lengths []int64
		gap, needed := random.Int63n(6), int64(0)
		for range random.Intn(10) {
			lengths = append(lengths, 1+random.Int63n(int64(1+steps/6)))
			needed += lengths[len(lengths)-1] + gap
		}
		list, code := impl.PackSections(f, lengths, gap)
		found[code]++
		fits := needed-gap <= int64(steps)
		wantEqual(t, code, map[bool]int64{true: impl.OK, false: impl.ErrLimit}[fits], "packed if there is room", rawFrame(f), lengths, gap)
		if code == impl.OK {
			checkLaid(t, f, list, lengths, gap)
		}
	}
	if found[impl.OK] < 1000 || found[impl.ErrLimit] < 1000 {
		t.Errorf("the tests look at too few cases: %v", found)
	}
}

// TestP10JustFit asks for sections that just fit, and for one step more of each length, and of the gap.
func TestP10JustFit(t *testing.T) {
	for steps := int64(2); steps <= 96; steps++ {
		for count := int64(1); count <= min(12, steps); count++ {
			for gap := int64(0); gap <= 96 && count+gap*(count-1) <= steps; gap += 1 + gap/3 {
				lengths := slices.Repeat([]int64{1}, int(count))
				lengths[steps%count] += steps - count - gap*(count-1)
				f := frame(int(steps), 24, 1)
				list, code := impl.PackSections(f, lengths, gap)
				wantEqual(t, code, impl.OK, "just fits", steps, lengths, gap)
				checkLaid(t, f, list, lengths, gap)
				if _, code = impl.PackSections(f, lengths, gap+1); count > 1 {
					wantEqual(t, code, impl.ErrLimit, "a gap too great", steps, lengths, gap)
				}
				for i := range lengths {
					longer := slices.Clone(lengths)
					longer[i]++
					want := map[bool]int64{true: impl.ErrLimit, false: impl.ErrRange}[longer[i] <= 96]
					_, code = impl.PackSections(f, longer, gap)
					wantEqual(t, code, want, "a step too long", steps, longer, gap)
				}
			}
		}
	}
}

// TestP10LaidTunes asks that laid tunes are in sections that do not overlap, and that each section has its tune.
func TestP10LaidTunes(t *testing.T) {
	found := map[int64]int{}
	random := rand.New(rand.NewSource(74))
	for range 4000 {
		steps := 2 + random.Intn(95)
		f, gap := frame(steps, 24, 1), random.Int63n(5)
		var lengths []int64
		var tunes []impl.Tune
		for _, u := range randomTunes(random, 1+steps/3) {
			length, _ := impl.LengthOf(u)
			tunes, lengths = append(tunes, u), append(lengths, max(length, 1))
		}
		list, all, code := impl.LayTunes(f, tunes, gap)
		packed, same := impl.PackSections(f, lengths, gap)
		found[code]++
		wantEqual(t, answers(code, list), answers(same, packed), "laid as the lengths are packed")
		if code != impl.OK {
			continue
		}
		checkLaid(t, f, list, lengths, gap)
		count := 0
		for i, u := range tunes {
			part, code := impl.CutTune(all, int64(list[i].From), int64(list[i].From)+int64(list[i].Steps))
			wantEqual(t, answers(code, part), answers(impl.OK, u), "the tune of its section", i, raw(all))
			count += len(u)
		}
		wantEqual(t, len(all), count, "no other notes", raw(all))
	}
	if found[impl.OK] < 1000 || found[impl.ErrLimit] < 200 {
		t.Errorf("the tests look at too few cases: %v", found)
	}
}

// TestLaidIsPlayed pins laid tunes on a drum with a hammer for each pitch: each section plays its tune.
func TestLaidIsPlayed(t *testing.T) {
	f := likeHammers(96, 24, 10, 1, 1)
	random := rand.New(rand.NewSource(75))
	for range 300 {
		var tunes []impl.Tune
		for _, u := range randomTunes(random, 20) {
			for i := range u {
				u[i].Pitch = 10 + u[i].Pitch%24
			}
			tunes = append(tunes, u)
		}
		list, all, code := impl.LayTunes(f, tunes, random.Int63n(9))
		if code != impl.OK {
			continue
		}
		d, _, code := impl.PinTune(f, all, impl.MaxTries)
		wantEqual(t, code, impl.OK, "pinned", raw(all))
		p := programme("")
		p.Sections = list
		for i, u := range tunes {
			p.Order[47-i] = int8(i)
			chime, code := impl.ChimeAt(f, d, p, int64(47-i))
			wantEqual(t, answers(code, chime), answers(impl.OK, u), "plays its tune", i, raw(all))
		}
	}
}

// orderSteps tells, by StepsTo alone, how many steps an order takes.
func orderSteps(t *testing.T, f impl.Frame, p impl.Programme, order []int64) int64 {
	t.Helper()
	var at, turned int64
	for _, index := range order {
		steps, code := impl.StepsTo(f, p, at, index)
		wantEqual(t, code, impl.OK, "steps to", index)
		s := p.Sections[index]
		at = (int64(s.From) + int64(s.Steps)) % int64(f.Steps)
		turned += steps + int64(s.Steps)
	}
	return turned
}

func TestP10FewestSteps(t *testing.T) {
	found := map[string]int{}
	orders := map[int][][]int64{}
	for count := range 7 {
		orders[count] = allOrders(int64(count))
	}
	for _, a := range chimeSubjects() {
		order, steps, code := impl.LeastStepsOrder(a.f, a.p)
		found[impl.CodeName(code)]++
		if len(a.p.Sections) > 6 {
			wantEqual(t, shown(t, code, order, steps), "[limit]", "too many sections", a)
			continue
		}
		wantEqual(t, code, impl.OK, "an order", a)
		wantEqual(t, orderSteps(t, a.f, a.p, order), steps, "the steps of the order", a)
		all := orders[len(a.p.Sections)]
		wantEqual(t, slices.ContainsFunc(all, func(o []int64) bool { return slices.Equal(o, order) }), true, "each section once", order)
		for _, other := range all {
			turned := orderSteps(t, a.f, a.p, other)
			wantEqual(t, steps < turned || steps == turned && slices.Compare(order, other) <= 0, true, "no other order is better:", other, a)
		}
		once := programme("")
		once.Sections = a.p.Sections
		for quarter, index := range order {
			once.Order[quarter*3] = int8(index)
		}
		day, code := impl.StepsInDay(a.f, once)
		wantEqual(t, answers(code, day), answers(impl.OK, steps), "as many steps in a day", a)
	}
	if found["ok"] < 300 || found["limit"] < 30 {
		t.Errorf("the tests look at too few cases: %v", found)
	}
}

// TestStepsInDayAddUp asks that a day takes the steps of its plays.
func TestStepsInDayAddUp(t *testing.T) {
	for _, a := range chimeSubjects() {
		var order []int64
		for _, index := range a.p.Order {
			if index >= 0 {
				order = append(order, int64(index))
			}
		}
		day, code := impl.StepsInDay(a.f, a.p)
		wantEqual(t, answers(code, day), answers(impl.OK, orderSteps(t, a.f, a.p, order)), "steps in a day", a)
	}
}

// TestTurnedProgramme turns programmes there and back, and by one step again and again.
func TestTurnedProgramme(t *testing.T) {
	found := map[int64]int{}
	for _, a := range chimeSubjects() {
		steps := int64(a.f.Steps)
		for by := range steps {
			turned, code := impl.TurnProgramme(a.f, a.p, by)
			found[code]++
			over := false
			for _, s := range a.p.Sections {
				over = over || (int64(s.From)+by)%steps+int64(s.Steps) > steps
			}
			wantEqual(t, code, map[bool]int64{true: impl.ErrState, false: impl.OK}[over], "over the end of the drum", by, a)
			if over {
				continue
			}
			wantEqual(t, impl.ValidProgramme(a.f, turned), true, "a turned programme is valid", by, a)
			back, code := impl.TurnProgramme(a.f, turned, (steps-by)%steps)
			wantEqual(t, fmt.Sprint(impl.SameProgramme(back, a.p), code), "true 0", "turned around", by, a)
			one, _ := impl.CountPlays(a.f, a.p)
			two, _ := impl.CountPlays(a.f, turned)
			slices.Sort(one)
			slices.Sort(two)
			wantEqual(t, fmt.Sprint(two), fmt.Sprint(one), "as many plays", by, a)
		}
	}
	if found[impl.OK] < 1000 || found[impl.ErrState] < 1000 {
		t.Errorf("the tests look at too few cases: %v", found)
	}
}

// TestProgrammesFromTexts asks that programmes are read from their texts, and quarters from theirs.
func TestProgrammesFromTexts(t *testing.T) {
	for _, a := range chimeSubjects() {
		text := impl.ProgrammeText(a.f, a.p)
		read, code := impl.ReadProgramme(a.f, text)
		wantEqual(t, fmt.Sprint(impl.SameProgramme(read, a.p), code), "true 0", "read", text)
		wantEqual(t, strings.Count(text, "\n"), len(a.p.Sections)+1, "lines", text)
	}
	for quarter := range int64(impl.Quarters) {
		read, code := impl.ReadQuarter(impl.QuarterText(quarter))
		wantEqual(t, answers(code, read), answers(impl.OK, quarter), "quarter", quarter)
	}
}
