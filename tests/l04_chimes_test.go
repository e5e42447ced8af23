package tests

import (
	"fmt"
	"math"
	"slices"
	"strings"
	"testing"

	"loop.example/g01311/impl"
)

// This file has chapter 4's results written out: the document's example, its edges, and its errors.

const chimeFrame = "8 c2/3 e2/2"

// exampleProgramme has the sections of the document's example, the section 1 at twelve o'clock, and the section 0 a quarter later.
func exampleProgramme() impl.Programme { return programme("ba", 0, 3, 4, 2) }

// marked shows a programme by its sections, and the marks of its quarters up to the last one that is not silent.
func marked(p impl.Programme) string {
	marks := ""
	for _, index := range p.Order {
		if index == -1 {
			marks += "."
		} else {
			marks += string(rune('a' + int(index)))
		}
	}
	return strings.TrimRight(fmt.Sprint(p.Sections, " ", strings.TrimRight(marks, ".")), " ")
}

// wantProgramme asks for a programme as marked shows it; a text in brackets stands for an error, which comes with no programme.
func wantProgramme(t *testing.T, got impl.Programme, code int64, want string, name ...any) {
	t.Helper()
	text := marked(got)
	if code != impl.OK {
		wantEqual(t, rawProgramme(got), rawProgramme(impl.Programme{}), "no programme with an error")
		text = "[" + impl.CodeName(code) + "]"
	}
	wantEqual(t, text, want, name...)
}

func TestChimeLimits(t *testing.T) {
	wantEqual(t, fmt.Sprint(impl.Quarters, impl.MaxSections, len(impl.Programme{}.Order)), "48 12 48", "limits")
}

func TestChimesExample(t *testing.T) {
	f, p := mustReadFrame(t, chimeFrame), exampleProgramme()
	wantEqual(t, impl.ValidProgramme(f, p), true, "valid")
	wantEqual(t, impl.QuarterText(0)+" "+impl.QuarterText(5), "12:00 1:15", "quarters")
	strokes, code := impl.StrikeTune(3, 24, 4)
	wantTune(t, strokes, code, "0:c2 4:c2 8:c2", "three o'clock")
	steps, code := impl.StepsTo(f, p, 3, 1)
	wantEqual(t, answers(code, steps), "ok; 1", "steps to the section 1")
	steps, code = impl.StepsTo(f, p, 3, 0)
	wantEqual(t, answers(code, steps), "ok; 5", "steps to the section 0")
	list, code := impl.PackSections(f, []int64{3, 2}, 1)
	wantEqual(t, answers(code, list), "ok; [{0 3} {4 2}]", "packed")
	order, steps, code := impl.LeastStepsOrder(f, p)
	wantEqual(t, answers(code, order, steps), "ok; [0 1]; 6", "fewest steps")
}

func TestValidProgramme(t *testing.T) {
	f := mustReadFrame(t, chimeFrame)
	great := mustReadFrame(t, "96 c2/3")
	most := func(count, from, by int) impl.Programme {
		p := programme("")
		p.Sections = manySections(count, from, by)
		return p
	}
	cases := []struct {
		name string
		f    impl.Frame
		p    impl.Programme
		want bool
	}{
		{"the example", f, exampleProgramme(), true},
		{"no section", f, programme(""), true},
		{"no section, and an index", f, programme("a"), false},
		{"nothing at all", f, impl.Programme{}, false},
		{"one section, and nothing is played", f, programme("", 3, 2), true},
		{"one section at all quarters", f, impl.Programme{Sections: sections(0, 8)}, true},
		{"MaxSections sections", great, most(12, 0, 8), true},
		{"MaxSections sections that touch", great, most(12, 84, 1), true},
		{"one more", great, most(13, 0, 1), false},
		{"far too many", great, most(96, 0, 1), false},
		{"sections that touch", f, programme("", 0, 3, 3, 2), true},
		{"sections that overlap by one step", f, programme("", 0, 4, 3, 2), false},
		{"sections that begin at one step", f, programme("", 2, 1, 2, 1), false},
		{"sections in the wrong order", f, programme("", 4, 2, 0, 3), false},
		{"a section inside another one", f, programme("", 0, 8, 2, 2), false},
		{"the third one overlaps", f, programme("", 0, 2, 2, 3, 4, 1), false},
		{"ends at the end of the drum", f, programme("", 4, 4), true},
		{"ends one step behind it", f, programme("", 4, 5), false},
		{"the last step", f, programme("", 7, 1), true},
		{"behind the last step", f, programme("", 8, 1), false},
		{"the whole drum", f, programme("", 0, 8), true},
		{"more than the whole drum", f, programme("", 0, 9), false},
		{"no steps", f, programme("", 2, 0), false},
		{"no steps at the end", f, programme("", 8, 0), false},
		{"less than no steps", f, programme("", 2, -1), false},
		{"before the first step", f, programme("", -1, 2), false},
		{"steps that are less when bits are lost", f, programme("", 7, math.MaxInt16), false},
		{"a second section ahead of the first one when bits are lost", f, programme("", 1, math.MaxInt16, 2, 1), false},
		{"the least numbers", f, programme("", math.MinInt16, math.MinInt16), false},
		{"the index of the last section", f, with(exampleProgramme(), 47, 1), true},
		{"an index of one more", f, with(exampleProgramme(), 47, 2), false},
		{"an index of one more at the first quarter", f, with(exampleProgramme(), 0, 2), false},
		{"an index of -2", f, with(exampleProgramme(), 47, -2), false},
		{"the least index", f, with(exampleProgramme(), 20, math.MinInt8), false},
		{"the greatest index", f, with(exampleProgramme(), 20, math.MaxInt8), false},
		{"no frame", impl.Frame{Steps: 8}, exampleProgramme(), false},
		{"a frame with a step too many", frame(97, 24, 1), exampleProgramme(), false},
	}
	for _, c := range cases {
		wantEqual(t, impl.ValidProgramme(c.f, c.p), c.want, "valid:", c.name)
	}
	for _, f := range chimeFrames() {
		for _, p := range programmesFor(f) {
			wantEqual(t, impl.ValidProgramme(f, p), true, "valid", rawFrame(f), rawProgramme(p))
		}
		for _, p := range invalidProgrammesFor(f) {
			wantEqual(t, impl.ValidProgramme(f, p), false, "invalid", rawFrame(f), rawProgramme(p))
		}
	}
}

func TestSameProgramme(t *testing.T) {
	p := exampleProgramme()
	none := impl.Programme{Sections: sections(9, -9, 0, 0)}
	none.Order[3] = 99
	cases := []struct {
		name string
		a, b impl.Programme
		want bool
	}{
		{"equal ones", p, exampleProgramme(), true},
		{"nil and empty", impl.Programme{}, impl.Programme{Sections: []impl.Section{}}, true},
		{"invalid ones", none, impl.Programme{Sections: sections(9, -9, 0, 0), Order: none.Order}, true},
		{"another From", p, programme("ba", 0, 3, 5, 2), false},
		{"other Steps", p, programme("ba", 0, 3, 4, 1), false},
		{"a section less", p, programme("ba", 0, 3), false},
		{"a section more", p, programme("ba", 0, 3, 4, 2, 7, 1), false},
		{"another order of sections", p, programme("ba", 4, 2, 0, 3), false},
		{"another first quarter", p, with(p, 0, 0), false},
		{"another last quarter", p, with(p, 47, 0), false},
		{"no programme", p, impl.Programme{}, false},
	}
	for _, c := range cases {
		wantEqual(t, impl.SameProgramme(c.a, c.b), c.want, "same:", c.name)
		wantEqual(t, impl.SameProgramme(c.b, c.a), c.want, "same the other way:", c.name)
	}
}

func TestQuarterText(t *testing.T) {
	for quarter, text := range map[int64]string{
		0: "12:00", 1: "12:15", 2: "12:30", 3: "12:45", 4: "1:00", 5: "1:15", 7: "1:45", 8: "2:00", 35: "8:45", 36: "9:00",
		39: "9:45", 40: "10:00", 43: "10:45", 44: "11:00", 46: "11:30", 47: "11:45",
		-1: "", 48: "", -48: "", 49: "", 96: "", 256: "", 1 << 32: "", math.MinInt64: "", math.MaxInt64: "", math.MinInt64 + 48: "",
	} {
		wantEqual(t, impl.QuarterText(quarter), text, "quarter", quarter)
		read, code := impl.ReadQuarter(text)
		if text == "" {
			wantEqual(t, shown(t, code, read), "[syntax]", "read nothing")
			continue
		}
		wantEqual(t, shown(t, code, read), fmt.Sprint(quarter), "read", text)
	}
	for _, text := range []string{"0:00", "13:00", "12:0", "12:00 ", " 12:00", "12:00\n", "12:000", "01:00", "1:1", "1:10", "1:60", "1:-15", "+1:15", "-1:15", "1:15:00", "115", ":15", "1:", "1 15", "1.15", "l:15", "१:15"} {
		read, code := impl.ReadQuarter(text)
		wantEqual(t, shown(t, code, read), "[syntax]", "read", text)
	}
}

func TestSectionTune(t *testing.T) {
	full := func(steps int) impl.Drum { return fullDrum(frame(steps, 1, 1, 1, 1)) }
	cases := []struct {
		name, frame string
		d           impl.Drum
		p           impl.Programme
		section     int64
		want        string
	}{
		{"the first one", chimeFrame, pinned(0, 0, 2, 1, 4, 1), exampleProgramme(), 0, "0/24 2/28"},
		{"the last one", chimeFrame, pinned(0, 0, 2, 1, 4, 1), exampleProgramme(), 1, "0/28"},
		{"no pins", chimeFrame, impl.Drum{}, exampleProgramme(), 1, ""},
		{"pins beside it", chimeFrame, pinned(3, 0, 6, 1), programme("", 4, 2), 0, ""},
		{"its first and its last step", chimeFrame, pinned(3, 0, 4, 1, 5, 0, 6, 1), programme("", 4, 2), 0, "0/28 1/24"},
		{"the last step of the drum", chimeFrame, pinned(7, 0, 7, 1, 0, 0), programme("", 7, 1), 0, "0/24 0/28"},
		{"the whole drum", chimeFrame, pinned(7, 0, 7, 1, 0, 0), programme("", 0, 8), 0, "0/24 7/24 7/28"},
		{"equal notes made one", "8 c2/3 c2/2", full(8), programme("", 2, 2), 0, "0/24 1/24"},
		{"ordered by pitch, not by track", "8 e2/3 c2/2", full(8), programme("", 3, 1), 0, "0/24 0/28"},
		{"clashes are played", "8 c2/8 e2/8", pinned(3, 0, 4, 0), programme("", 3, 3), 0, "0/24 1/24"},
		{"behind the last one", chimeFrame, impl.Drum{}, exampleProgramme(), 2, "[range]"},
		{"before the first one", chimeFrame, impl.Drum{}, exampleProgramme(), -1, "[range]"},
		{"no section", chimeFrame, impl.Drum{}, programme(""), 0, "[range]"},
		{"a number of more bits", chimeFrame, impl.Drum{}, exampleProgramme(), 1 << 32, "[range]"},
		{"the least number", chimeFrame, impl.Drum{}, exampleProgramme(), math.MinInt64, "[range]"},
		{"the greatest number", chimeFrame, impl.Drum{}, exampleProgramme(), math.MaxInt64, "[range]"},
		{"no programme", chimeFrame, impl.Drum{}, programme("c", 0, 3, 4, 2), 9, "[invalid]"},
		{"no drum", chimeFrame, pinned(0, 2), exampleProgramme(), 9, "[invalid]"},
		{"a drum with a step too many", chimeFrame, pinned(8, 0), exampleProgramme(), 0, "[invalid]"},
	}
	for _, c := range cases {
		tune, code := impl.SectionTune(mustReadFrame(t, c.frame), c.d, c.p, c.section)
		wantEqual(t, shown(t, code, tune), c.want, "section:", c.name)
	}
}

// notesIn tells how many notes a tune has, where its last one begins, and the code.
func notesIn(t *testing.T, tune impl.Tune, code int64) string {
	t.Helper()
	if code != impl.OK {
		return shown(t, code, tune)
	}
	wantEqual(t, impl.ValidTune(tune), true, "valid")
	length, _ := impl.LengthOf(tune)
	return fmt.Sprint(len(tune), " ", length)
}

// TestSectionTuneMost has sections with MaxNotes notes, and with one more, on a drum with far more.
func TestSectionTuneMost(t *testing.T) {
	f := likeHammers(96, 24, 0, 2, 20)
	d := fullDrum(f)
	d[60] = 1
	p := programme("abcdef", 0, 5, 10, 6, 50, 5, 56, 5, 61, 6, 80, 2)
	for section, want := range map[int64]string{0: "120 5", 1: "[limit]", 2: "120 5", 3: "97 5", 4: "[limit]", 5: "48 2"} {
		tune, code := impl.SectionTune(f, d, p, section)
		wantEqual(t, notesIn(t, tune, code), want, "section", section)
		chime, code := impl.ChimeAt(f, d, p, section)
		wantEqual(t, notesIn(t, chime, code), want, "chime", section)
	}
	pair := frame(96, 24, 1, 24, 1, 28, 1)
	e := fullDrum(pair)
	for step := 24; step < 96; step++ {
		e[step] = 3
	}
	tune, code := impl.SectionTune(pair, e, programme("", 0, 96), 0)
	wantEqual(t, notesIn(t, tune, code), "120 96", "equal notes count once")
	e[95] = 7
	tune, code = impl.SectionTune(pair, e, programme("", 0, 96), 0)
	wantEqual(t, notesIn(t, tune, code), "[limit]", "a note too many")
	tune, code = impl.SectionTune(pair, e, programme("", 1, 95), 0)
	wantEqual(t, notesIn(t, tune, code), "119 95", "a step less")
}

func TestChimeAt(t *testing.T) {
	f, d := mustReadFrame(t, chimeFrame), pinned(0, 0, 2, 1, 4, 1, 7, 0)
	p := with(programme("ba", 0, 3, 4, 4), 47, 1)
	for quarter, want := range map[int64]string{
		0: "0/28 3/24", 1: "0/24 2/28", 2: "", 46: "", 47: "0/28 3/24",
		-1: "[range]", 48: "[range]", 256: "[range]", 1 << 32: "[range]", math.MinInt64: "[range]", math.MaxInt64: "[range]",
	} {
		tune, code := impl.ChimeAt(f, d, p, quarter)
		wantEqual(t, shown(t, code, tune), want, "chime at", quarter)
	}
	tune, code := impl.ChimeAt(f, d, programme(""), 0)
	wantEqual(t, shown(t, code, tune), "", "no section")
	for _, quarter := range []int64{0, 48, -1} {
		tune, code = impl.ChimeAt(f, d, programme("c", 0, 3, 4, 2), quarter)
		wantEqual(t, shown(t, code, tune), "[invalid]", "no programme")
		tune, code = impl.ChimeAt(f, pinned(0, 2), p, quarter)
		wantEqual(t, shown(t, code, tune), "[invalid]", "no drum")
	}
}

func TestStrikeTune(t *testing.T) {
	cases := []struct {
		hour, pitch, gap int64
		want             string
	}{
		{3, 24, 4, "0:c2 4:c2 8:c2"},
		{1, 0, 1, "0:c0"},
		{1, 47, 16, "0:b3"},
		{2, 47, 16, "0:b3 16:b3"},
		{12, 24, 1, "0:c2 1:c2 2:c2 3:c2 4:c2 5:c2 6:c2 7:c2 8:c2 9:c2 10:c2 11:c2"},
		{12, 24, 16, "0:c2 16:c2 32:c2 48:c2 64:c2 80:c2 96:c2 112:c2 128:c2 144:c2 160:c2 176:c2"},
		{0, 24, 4, "[range]"},
		{13, 24, 4, "[range]"},
		{-1, 24, 4, "[range]"},
		{3, -1, 4, "[range]"},
		{3, 48, 4, "[range]"},
		{3, 24, 0, "[range]"},
		{3, 24, -1, "[range]"},
		{3, 24, 17, "[range]"},
		{1<<32 + 3, 24, 4, "[range]"},
		{3, 256 + 24, 4, "[range]"},
		{3, 24, 1<<16 + 4, "[range]"},
		{math.MinInt64, math.MinInt64, math.MinInt64, "[range]"},
		{math.MaxInt64, math.MaxInt64, math.MaxInt64, "[range]"},
		{3, 24, math.MaxInt64, "[range]"},
		{3, math.MinInt64, 4, "[range]"},
	}
	for _, c := range cases {
		tune, code := impl.StrikeTune(c.hour, c.pitch, c.gap)
		wantTune(t, tune, code, c.want, "strike", c.hour, c.pitch, c.gap)
	}
}

func TestWholeChime(t *testing.T) {
	f, d := mustReadFrame(t, chimeFrame), pinned(0, 0, 2, 1, 4, 1)
	p := programme("ba..b...a....", 0, 3, 4, 2)
	cases := []struct {
		name                string
		quarter, pitch, gap int64
		want                string
	}{
		{"an hour with a section", 4, 24, 1, "0/28 2/24"},
		{"an hour with the other section", 8, 30, 5, "0/24 2/28 3/30 8/30"},
		{"an hour without a section", 12, 24, 2, "0/24 2/24 4/24"},
		{"a quarter with a section", 1, 24, 1, "0/24 2/28"},
		{"a quarter without a section", 3, 24, 1, ""},
		{"the last quarter", 47, 24, 1, ""},
		{"twelve strokes", 0, 31, 1, "0/28 2/31 3/31 4/31 5/31 6/31 7/31 8/31 9/31 10/31 11/31 12/31 13/31"},
		{"eleven strokes", 44, 31, 16, "0/31 16/31 32/31 48/31 64/31 80/31 96/31 112/31 128/31 144/31 160/31"},
		{"the bell of the drum", 8, 28, 1, "0/24 2/28 3/28 4/28"},
		{"the lowest pitch", 4, 0, 1, "0/28 2/0"},
		{"the highest pitch", 4, 47, 16, "0/28 2/47"},
		{"behind the last quarter", 48, 24, 1, "[range]"},
		{"before the first quarter", -1, 24, 1, "[range]"},
		{"no pitch", 4, 48, 1, "[range]"},
		{"no pitch at another quarter", 1, 48, 1, "[range]"},
		{"a pitch below 0 at another quarter", 3, -1, 1, "[range]"},
		{"no gap", 4, 24, 0, "[range]"},
		{"no gap at another quarter", 1, 24, 0, "[range]"},
		{"too great a gap", 4, 24, 17, "[range]"},
		{"too great a gap at another quarter", 3, 24, 17, "[range]"},
		{"the least numbers", math.MinInt64, math.MinInt64, math.MinInt64, "[range]"},
		{"the greatest numbers", math.MaxInt64, math.MaxInt64, math.MaxInt64, "[range]"},
		{"the greatest quarter", math.MaxInt64, 24, 1, "[range]"},
		{"the least quarter", math.MinInt64, 24, 1, "[range]"},
		{"numbers of more bits", 1 << 32, 24, 1, "[range]"},
		{"a pitch of more bits", 4, 1<<32 + 24, 1, "[range]"},
		{"a gap of more bits", 4, 24, 1<<32 + 1, "[range]"},
	}
	for _, c := range cases {
		tune, code := impl.WholeChime(f, d, p, c.quarter, c.pitch, c.gap)
		wantEqual(t, shown(t, code, tune), c.want, "whole:", c.name)
	}
	for _, quarter := range []int64{0, 1, 48} {
		tune, code := impl.WholeChime(f, d, impl.Programme{}, quarter, 48, 0)
		wantEqual(t, shown(t, code, tune), "[invalid]", "no programme")
		tune, code = impl.WholeChime(f, pinned(8, 0), p, quarter, 48, 0)
		wantEqual(t, shown(t, code, tune), "[invalid]", "no drum")
	}
}

// TestWholeChimeMost has strokes up to the last step of a tune, and notes up to MaxNotes.
func TestWholeChimeMost(t *testing.T) {
	f := likeHammers(96, 24, 0, 2, 20)
	d := fullDrum(f)
	d[4] = 1<<12 - 1
	cases := []struct {
		name         string
		from, steps  int
		quarter, gap int64
		want         string
	}{
		{"the last stroke at MaxAt less 1", 5, 1, 0, 16, "36 178"},
		{"empty steps up to MaxAt less 1", 60, 23, 0, 16, "12 200"},
		{"a step more", 60, 24, 0, 16, "[limit]"},
		{"a step more at another quarter", 60, 24, 1, 16, "0 0"},
		{"a step more at eleven o'clock", 60, 24, 44, 16, "11 185"},
		{"eleven o'clock up to MaxAt less 1", 56, 39, 44, 16, "11 200"},
		{"eleven o'clock, a step more", 56, 40, 44, 16, "[limit]"},
		{"the greatest section and the longest hour", 0, 96, 1, 16, "[limit]"},
		{"empty steps and a lesser gap", 56, 40, 0, 14, "12 195"},
		{"MaxNotes notes", 0, 5, 0, 1, "120 17"},
		{"MaxNotes notes without the hour", 0, 5, 1, 1, "108 5"},
		{"MaxNotes notes of the section alone", 5, 5, 1, 1, "120 5"},
		{"a note too many with the hour", 5, 5, 4, 1, "[limit]"},
		{"a note too many without the hour", 4, 6, 1, 1, "[limit]"},
	}
	for step := 15; step < 96; step++ {
		d[step] = 0
	}
	for _, c := range cases {
		p := programme("", c.from, c.steps)
		p.Order[c.quarter] = 0
		tune, code := impl.WholeChime(f, d, p, c.quarter, 24, c.gap)
		wantEqual(t, notesIn(t, tune, code), c.want, "whole:", c.name)
	}
	d[4] = 1<<13 - 1
	for quarter, want := range map[int64]string{0: "[limit]", 44: "120 16", 40: "119 15", 2: "109 5"} {
		p := programme("", 0, 5)
		p.Order[quarter] = 0
		tune, code := impl.WholeChime(f, d, p, quarter, 24, 1)
		wantEqual(t, notesIn(t, tune, code), want, "109 notes and the hour at", quarter)
	}
}

func TestNextChime(t *testing.T) {
	f := mustReadFrame(t, chimeFrame)
	p := with(programme("ba.a", 0, 3, 4, 2, 7, 1), 47, 0)
	cases := []struct {
		name             string
		quarter, section int64
		want             string
	}{
		{"the next quarter", 0, 0, "1"},
		{"not the quarter itself", 1, 0, "3"},
		{"far behind", 3, 0, "47"},
		{"behind the last quarter", 47, 0, "1"},
		{"behind the last quarter, the first one", 47, 1, "0"},
		{"the quarter itself comes last", 0, 1, "0"},
		{"all around", 1, 1, "0"},
		{"never", 0, 2, "[notfound]"},
		{"no such section", 0, 3, "[range]"},
		{"a section of -1", 0, -1, "[range]"},
		{"behind the last quarter there is none", 48, 0, "[range]"},
		{"no quarter", -1, 0, "[range]"},
		{"no quarter, and never", 48, 2, "[range]"},
		{"the least numbers", math.MinInt64, math.MinInt64, "[range]"},
		{"the greatest numbers", math.MaxInt64, math.MaxInt64, "[range]"},
		{"a quarter of more bits", 1 << 32, 0, "[range]"},
		{"a section of more bits", 0, 256, "[range]"},
	}
	for _, c := range cases {
		next, code := impl.NextChime(f, p, c.quarter, c.section)
		wantEqual(t, shown(t, code, next), c.want, "next:", c.name)
	}
	next, code := impl.NextChime(f, with(programme("", 0, 3, 4, 2), 30, 1), 30, 1)
	wantEqual(t, shown(t, code, next), "30", "at one quarter alone")
	next, code = impl.NextChime(f, programme(""), 0, 0)
	wantEqual(t, shown(t, code, next), "[range]", "no section")
	next, code = impl.NextChime(f, impl.Programme{}, 48, 9)
	wantEqual(t, shown(t, code, next), "[invalid]", "no programme")
}

func TestPlays(t *testing.T) {
	f := mustReadFrame(t, chimeFrame)
	all := impl.Programme{Sections: sections(2, 1)}
	ends := with(with(programme(strings.Repeat("a", 48), 0, 3, 4, 2), 0, -1), 47, -1)
	cases := []struct {
		name   string
		p      impl.Programme
		silent string
		plays  string
	}{
		{"no section", programme(""), fmt.Sprint(numbersBy(48, 0, 1)), "[]"},
		{"the example", exampleProgramme(), fmt.Sprint(numbersBy(46, 2, 1)), "[1 1]"},
		{"one section at all quarters", all, "[]", "[48]"},
		{"the first and the last quarter are silent", ends, "[0 47]", "[46 0]"},
		{"one section alone at one quarter alone", with(programme("", 0, 1, 4, 2, 6, 2), 47, 1), fmt.Sprint(numbersBy(47, 0, 1)), "[0 1 0]"},
		{"no programme", programme("c", 0, 3, 4, 2), "[invalid]", "[invalid]"},
		{"nothing at all", impl.Programme{}, "[invalid]", "[invalid]"},
	}
	for _, c := range cases {
		silent, code := impl.SilentQuarters(f, c.p)
		wantEqual(t, shown(t, code, silent), c.silent, "silent:", c.name)
		plays, code := impl.CountPlays(f, c.p)
		wantEqual(t, shown(t, code, plays), c.plays, "plays:", c.name)
	}
}

func TestStepsTo(t *testing.T) {
	f, p := mustReadFrame(t, chimeFrame), exampleProgramme()
	cases := []struct {
		name        string
		at, section int64
		want        string
	}{
		{"ahead", 3, 1, "1"},
		{"behind the end of the drum", 3, 0, "5"},
		{"stands where the section begins", 4, 1, "0"},
		{"stands at the step 0, where the section begins", 0, 0, "0"},
		{"one step behind its beginning", 5, 1, "7"},
		{"from the step 0", 0, 1, "4"},
		{"from the last step", 7, 0, "1"},
		{"from the last step to the other one", 7, 1, "5"},
		{"inside another section", 1, 1, "3"},
		{"inside the section itself", 1, 0, "7"},
		{"a step of the drum's end", 8, 0, "[range]"},
		{"a step below 0", -1, 0, "[range]"},
		{"no such section", 0, 2, "[range]"},
		{"a section of -1", 0, -1, "[range]"},
		{"the least numbers", math.MinInt64, math.MinInt64, "[range]"},
		{"the greatest numbers", math.MaxInt64, math.MaxInt64, "[range]"},
		{"a step of more bits", 1 << 32, 0, "[range]"},
		{"a section of more bits", 0, 1 << 32, "[range]"},
	}
	for _, c := range cases {
		steps, code := impl.StepsTo(f, p, c.at, c.section)
		wantEqual(t, shown(t, code, steps), c.want, "steps to:", c.name)
	}
	steps, code := impl.StepsTo(f, impl.Programme{}, 9, 9)
	wantEqual(t, shown(t, code, steps), "[invalid]", "no programme")
	steps, code = impl.StepsTo(f, programme(""), 0, 0)
	wantEqual(t, shown(t, code, steps), "[range]", "no section")
}

func TestStepsInDay(t *testing.T) {
	cases := []struct {
		name, frame string
		p           impl.Programme
		want        string
	}{
		{"no section", chimeFrame, programme(""), "0"},
		{"nothing is played", chimeFrame, programme("", 0, 3, 4, 2), "0"},
		{"the section where the drum stands", chimeFrame, programme("a", 0, 3), "3"},
		{"a section farther on", chimeFrame, programme("a", 4, 2), "6"},
		{"one quarter alone, the last one", chimeFrame, with(programme("", 0, 3, 4, 2), 47, 1), "6"},
		{"one section twice", chimeFrame, programme("aa", 0, 3), "11"},
		{"one section again and again", chimeFrame, impl.Programme{Sections: sections(0, 3)}, "379"},
		{"both in their order", chimeFrame, programme("ab", 0, 3, 4, 2), "6"},
		{"silent quarters do not matter", chimeFrame, programme("..a...b", 0, 3, 4, 2), "6"},
		{"the other way", chimeFrame, programme("ba", 0, 3, 4, 2), "11"},
		{"sections that touch", chimeFrame, programme("abab", 0, 4, 4, 4), "16"},
		{"from the end of the drum to the step 0", chimeFrame, programme("aba", 0, 3, 6, 2), "11"},
		{"the whole drum", chimeFrame, programme("aa", 0, 8), "16"},
		{"the whole drum at all quarters", "96 c2/1", impl.Programme{Sections: sections(0, 96)}, "4608"},
		{"the longest way", "96 c2/1", impl.Programme{Sections: sections(95, 1)}, "4608"},
		{"as long a way as there is", "96 c2/1", impl.Programme{Sections: sections(1, 95)}, "4608"},
		{"no step between", "96 c2/1", programme(strings.Repeat("ba", 24), 0, 2, 2, 94), "2306"},
		{"back each time", "96 c2/1", programme(strings.Repeat("ba", 24), 0, 1, 1, 1), "2305"},
		{"no programme", chimeFrame, programme("b", 0, 3), "[invalid]"},
		{"nothing at all", chimeFrame, impl.Programme{}, "[invalid]"},
	}
	for _, c := range cases {
		steps, code := impl.StepsInDay(mustReadFrame(t, c.frame), c.p)
		wantEqual(t, shown(t, code, steps), c.want, "steps in a day:", c.name)
	}
}

func TestSectionAt(t *testing.T) {
	f, p := mustReadFrame(t, chimeFrame), programme("", 1, 2, 3, 1, 6, 2)
	for step, want := range map[int64]string{
		0: "[notfound]", 1: "0", 2: "0", 3: "1", 4: "[notfound]", 5: "[notfound]", 6: "2", 7: "2", 8: "[range]", -1: "[range]",
		9: "[range]", 96: "[range]", 257: "[range]", 1 << 32: "[range]", math.MinInt64: "[range]", math.MaxInt64: "[range]",
	} {
		section, code := impl.SectionAt(f, p, step)
		wantEqual(t, shown(t, code, section), want, "section at", step)
	}
	section, code := impl.SectionAt(f, programme(""), 0)
	wantEqual(t, shown(t, code, section), "[notfound]", "no section")
	section, code = impl.SectionAt(f, impl.Programme{}, 8)
	wantEqual(t, shown(t, code, section), "[invalid]", "no programme")
}

func TestPackSections(t *testing.T) {
	cases := []struct {
		name    string
		f       impl.Frame
		lengths []int64
		gap     int64
		want    string
	}{
		{"the example", frame(8, 24, 3), []int64{3, 2}, 1, "[{0 3} {4 2}]"},
		{"no lengths", frame(8, 24, 3), nil, 96, "[]"},
		{"an empty list", frame(8, 24, 3), []int64{}, 0, "[]"},
		{"one", frame(8, 24, 3), []int64{5}, 96, "[{0 5}]"},
		{"one that just fits", frame(8, 24, 3), []int64{8}, 0, "[{0 8}]"},
		{"one step too long", frame(8, 24, 3), []int64{9}, 0, "[limit]"},
		{"some that just fit", frame(8, 24, 3), []int64{2, 3, 3}, 0, "[{0 2} {2 3} {5 3}]"},
		{"one of some a step too long", frame(8, 24, 3), []int64{2, 3, 4}, 0, "[limit]"},
		{"the first of some a step too long", frame(8, 24, 3), []int64{3, 3, 3}, 0, "[limit]"},
		{"gaps that just fit", frame(8, 24, 3), []int64{2, 1, 1}, 2, "[{0 2} {4 1} {7 1}]"},
		{"gaps that are too long", frame(8, 24, 3), []int64{2, 1, 1}, 3, "[limit]"},
		{"a gap that just fits", frame(8, 24, 3), []int64{1, 1}, 6, "[{0 1} {7 1}]"},
		{"a gap a step too long", frame(8, 24, 3), []int64{1, 1}, 7, "[limit]"},
		{"the greatest gap", frame(8, 24, 3), []int64{1, 1}, 96, "[limit]"},
		{"the greatest gap in the greatest drum", frame(96, 24, 3), []int64{1, 1}, 96, "[limit]"},
		{"a gap of 94 steps in the greatest drum", frame(96, 24, 3), []int64{1, 1}, 94, "[{0 1} {95 1}]"},
		{"a gap that is too great", frame(8, 24, 3), nil, 97, "[range]"},
		{"a gap below 0", frame(8, 24, 3), []int64{3}, -1, "[range]"},
		{"the greatest length", frame(96, 24, 3), []int64{96}, 0, "[{0 96}]"},
		{"the greatest length in a small drum", frame(8, 24, 3), []int64{96}, 0, "[limit]"},
		{"a length that is too great", frame(96, 24, 3), []int64{97}, 0, "[range]"},
		{"a length that is too great behind others", frame(8, 24, 3), []int64{9, 1, 97}, 0, "[range]"},
		{"no length", frame(8, 24, 3), []int64{3, 0}, 0, "[range]"},
		{"a length below 0", frame(8, 24, 3), []int64{3, -1}, 0, "[range]"},
		{"MaxSections lengths", frame(12, 24, 3), slices.Repeat([]int64{1}, 12), 0, "[{0 1} {1 1} {2 1} {3 1} {4 1} {5 1} {6 1} {7 1} {8 1} {9 1} {10 1} {11 1}]"},
		{"MaxSections lengths and the greatest gaps", frame(96, 24, 3), slices.Repeat([]int64{96}, 12), 96, "[limit]"},
		{"MaxSections lengths, a step too long", frame(11, 24, 3), slices.Repeat([]int64{1}, 12), 0, "[limit]"},
		{"a length more", frame(96, 24, 3), slices.Repeat([]int64{1}, 13), 0, "[range]"},
		{"the least numbers", frame(8, 24, 3), []int64{math.MinInt64}, math.MinInt64, "[range]"},
		{"the greatest numbers", frame(8, 24, 3), []int64{math.MaxInt64}, math.MaxInt64, "[range]"},
		{"the greatest numbers apart", frame(8, 24, 3), []int64{1, 1}, math.MaxInt64, "[range]"},
		{"the greatest length of all", frame(8, 24, 3), []int64{1, math.MaxInt64}, 1, "[range]"},
		{"a length of more bits", frame(8, 24, 3), []int64{1<<16 + 1}, 1, "[range]"},
		{"no frame", frame(1, 24, 1), []int64{97}, 97, "[invalid]"},
	}
	for _, c := range cases {
		list, code := impl.PackSections(c.f, c.lengths, c.gap)
		wantEqual(t, shown(t, code, list), c.want, "pack:", c.name)
	}
}

func TestLayTunes(t *testing.T) {
	f := frame(8, 24, 3)
	one, none := notes(0, 24, 2, 28), impl.Tune{}
	cases := []struct {
		name  string
		f     impl.Frame
		tunes []impl.Tune
		gap   int64
		want  string
	}{
		{"two tunes", f, []impl.Tune{one, notes(1, 30)}, 1, "[{0 3} {4 2}]; 0/24 2/28 5/30"},
		{"no tunes", f, nil, 96, "[]; "},
		{"an empty tune", f, []impl.Tune{none}, 0, "[{0 1}]; "},
		{"nil is an empty tune", f, []impl.Tune{nil, nil}, 6, "[{0 1} {7 1}]; "},
		{"an empty tune between others", f, []impl.Tune{one, none, one}, 0, "[{0 3} {3 1} {4 3}]; 0/24 2/28 4/24 6/28"},
		{"an empty tune at the end", f, []impl.Tune{notes(1, 24), nil}, 1, "[{0 2} {3 1}]; 1/24"},
		{"tunes that just fit", f, []impl.Tune{one, notes(4, 47)}, 0, "[{0 3} {3 5}]; 0/24 2/28 7/47"},
		{"a step too long", f, []impl.Tune{one, notes(5, 47)}, 0, "[limit]"},
		{"an empty tune behind the end", f, []impl.Tune{notes(7, 47), nil}, 0, "[limit]"},
		{"a gap a step too long", f, []impl.Tune{one, notes(4, 47)}, 1, "[limit]"},
		{"a tune longer than MaxSteps", f, []impl.Tune{notes(96, 24)}, 0, "[limit]"},
		{"the longest tune", frame(96, 24, 3), []impl.Tune{notes(199, 24)}, 0, "[limit]"},
		{"tunes that end behind MaxAt", frame(96, 24, 3), slices.Repeat([]impl.Tune{notes(199, 24)}, 12), 96, "[limit]"},
		{"pitches that the frame has not", f, []impl.Tune{notes(0, 0), notes(0, 47)}, 0, "[{0 1} {1 1}]; 0/0 1/47"},
		{"a gap that is too great", f, nil, 97, "[range]"},
		{"a gap below 0", f, []impl.Tune{one}, -1, "[range]"},
		{"the least gap", f, []impl.Tune{one}, math.MinInt64, "[range]"},
		{"the greatest gap", f, []impl.Tune{one, one}, math.MaxInt64, "[range]"},
		{"a tune too many", frame(96, 24, 3), slices.Repeat([]impl.Tune{nil}, 13), 0, "[range]"},
		{"a tune too many, and too long", f, slices.Repeat([]impl.Tune{notes(96, 24)}, 13), 0, "[range]"},
		{"no tune", f, []impl.Tune{one, notes(0, 24, 0, 24)}, 97, "[invalid]"},
		{"no tune at the end of too many", f, append(slices.Repeat([]impl.Tune{one}, 13), notes(-1, 24)), 0, "[invalid]"},
		{"no frame", frame(97, 24, 3), []impl.Tune{one}, 97, "[invalid]"},
	}
	for _, c := range cases {
		list, tune, code := impl.LayTunes(c.f, c.tunes, c.gap)
		wantEqual(t, shown(t, code, list, tune), c.want, "lay:", c.name)
	}
}

// TestLayTunesMost has tunes up to the last step of the greatest drum, and with MaxNotes notes in all.
func TestLayTunesMost(t *testing.T) {
	f := frame(96, 24, 3)
	cases := []struct {
		name  string
		tunes []impl.Tune
		gap   int64
		want  string
	}{
		{"up to MaxSteps", []impl.Tune{notes(95, 24)}, 0, "1 96"},
		{"a step more", []impl.Tune{notes(96, 24)}, 0, "[limit]"},
		{"MaxSections tunes up to MaxSteps", slices.Repeat([]impl.Tune{notes(7, 24)}, 12), 0, "12 96"},
		{"MaxSections tunes and gaps", slices.Repeat([]impl.Tune{notes(0, 24)}, 12), 7, "12 89"},
		{"MaxSections tunes and gaps that are too long", slices.Repeat([]impl.Tune{notes(0, 24)}, 12), 8, "[limit]"},
		{"the last tune up to MaxSteps", []impl.Tune{notes(0, 24), notes(1, 24)}, 93, "2 96"},
		{"the last tune a step more", []impl.Tune{notes(0, 24), notes(2, 24)}, 93, "[limit]"},
		{"MaxNotes notes", []impl.Tune{block(60, 0), block(60, 0)}, 0, "120 4"},
		{"a note more", []impl.Tune{block(60, 0), block(61, 0)}, 0, "[limit]"},
		{"MaxNotes notes in one tune", []impl.Tune{block(120, 0), nil}, 5, "120 3"},
		{"MaxNotes notes, and one in the next tune", []impl.Tune{block(120, 0), notes(0, 3)}, 5, "[limit]"},
		{"MaxNotes notes in all tunes", slices.Repeat([]impl.Tune{block(10, 0)}, 12), 0, "120 12"},
		{"MaxNotes notes in each tune", slices.Repeat([]impl.Tune{block(120, 0)}, 12), 0, "[limit]"},
	}
	for _, c := range cases {
		_, tune, code := impl.LayTunes(f, c.tunes, c.gap)
		wantEqual(t, notesIn(t, tune, code), c.want, "lay:", c.name)
	}
}

func TestTurnProgramme(t *testing.T) {
	p := programme("ab.cba", 0, 2, 3, 1, 5, 2)
	cases := []struct {
		name, frame string
		p           impl.Programme
		by          int64
		want        string
	}{
		{"by no step", chimeFrame, p, 0, "[{0 2} {3 1} {5 2}] ab.cba"},
		{"a section ends at the end of the drum", chimeFrame, p, 1, "[{1 2} {4 1} {6 2}] ab.cba"},
		{"a section would go over the end", chimeFrame, p, 2, "[state]"},
		{"a section begins at the step 0", chimeFrame, p, 3, "[{0 2} {3 2} {6 1}] bc.acb"},
		{"the last section comes first", chimeFrame, p, 4, "[{1 2} {4 2} {7 1}] bc.acb"},
		{"two sections come first", chimeFrame, p, 5, "[{0 1} {2 2} {5 2}] ca.bac"},
		{"the first section at the end", chimeFrame, p, 6, "[{1 1} {3 2} {6 2}] ca.bac"},
		{"the first section would go over the end", chimeFrame, p, 7, "[state]"},
		{"by Steps", chimeFrame, p, 8, "[range]"},
		{"by less than no step", chimeFrame, p, -1, "[range]"},
		{"by the least number", chimeFrame, p, math.MinInt64, "[range]"},
		{"by the greatest number", chimeFrame, p, math.MaxInt64, "[range]"},
		{"by a number of more bits", chimeFrame, p, 1<<16 + 1, "[range]"},
		{"no section", chimeFrame, programme(""), 7, "[]"},
		{"the whole drum by no step", chimeFrame, programme("a", 0, 8), 0, "[{0 8}] a"},
		{"the whole drum", chimeFrame, programme("a", 0, 8), 1, "[state]"},
		{"the last step", chimeFrame, programme("a", 7, 1), 1, "[{0 1}] a"},
		{"to the last step", chimeFrame, programme("a", 0, 1), 7, "[{7 1}] a"},
		{"sections that touch", chimeFrame, programme("ab", 0, 4, 4, 4), 4, "[{0 4} {4 4}] ba"},
		{"nothing is played", chimeFrame, programme("", 0, 4, 4, 4), 4, "[{0 4} {4 4}]"},
		{"the greatest drum", "96 c2/1", programme("ba", 0, 1, 95, 1), 95, "[{94 1} {95 1}] ab"},
		{"no programme", chimeFrame, programme("d", 0, 2, 3, 1, 5, 2), 8, "[invalid]"},
		{"nothing at all", chimeFrame, impl.Programme{}, 0, "[invalid]"},
	}
	for _, c := range cases {
		turned, code := impl.TurnProgramme(mustReadFrame(t, c.frame), c.p, c.by)
		wantProgramme(t, turned, code, c.want, "turn:", c.name)
	}
	turned, code := impl.TurnProgramme(mustReadFrame(t, chimeFrame), with(p, 47, 2), 3)
	wantProgramme(t, turned, code, "[{0 2} {3 2} {6 1}] bc.acb"+strings.Repeat(".", 41)+"a", "turn: the last quarter")
}

func TestLeastStepsOrder(t *testing.T) {
	most := func(count int) impl.Programme {
		p := programme("")
		p.Sections = manySections(count, 0, 8)
		return p
	}
	cases := []struct {
		name, frame string
		p           impl.Programme
		want        string
	}{
		{"no section", chimeFrame, programme(""), "[]; 0"},
		{"the example", chimeFrame, exampleProgramme(), "[0 1]; 6"},
		{"one section where the drum stands", chimeFrame, programme("", 0, 3), "[0]; 3"},
		{"one section farther on", chimeFrame, programme("", 5, 3), "[0]; 8"},
		{"what is played does not matter", chimeFrame, programme("bbbaba", 1, 2, 3, 1), "[0 1]; 4"},
		{"up to the end of the drum", chimeFrame, programme("", 1, 2, 4, 4), "[0 1]; 8"},
		{"the whole drum", chimeFrame, programme("", 0, 8), "[0]; 8"},
		{"6 sections", "96 c2/1", most(6), "[0 1 2 3 4 5]; 41"},
		{"7 sections", "96 c2/1", most(7), "[limit]"},
		{"MaxSections sections", "96 c2/1", most(12), "[limit]"},
		{"too many sections", "96 c2/1", most(13), "[invalid]"},
		{"6 sections up to the end", "6 c2/1", impl.Programme{Sections: manySections(6, 0, 1)}, "[0 1 2 3 4 5]; 6"},
		{"no programme", chimeFrame, impl.Programme{}, "[invalid]"},
	}
	for _, c := range cases {
		order, steps, code := impl.LeastStepsOrder(mustReadFrame(t, c.frame), c.p)
		wantEqual(t, shown(t, code, order, steps), c.want, "order:", c.name)
	}
}

// silence is the line of a programme that plays nothing, without its newline.
var silence = strings.Repeat(".", 48)

func TestProgrammeText(t *testing.T) {
	most := programme("abcdefghijkl")
	most.Sections = manySections(12, 0, 8)
	cases := []struct {
		frame string
		p     impl.Programme
		want  string
	}{
		{chimeFrame, programme(""), silence + "\n"},
		{chimeFrame, exampleProgramme(), "0 3\n4 2\nba" + silence[2:] + "\n"},
		{chimeFrame, with(exampleProgramme(), 47, 1), "0 3\n4 2\nba" + silence[3:] + "b\n"},
		{"96 c2/1", programme("", 10, 86), "10 86\n" + silence + "\n"},
		{"96 c2/1", most, "0 1\n8 1\n16 1\n24 1\n32 1\n40 1\n48 1\n56 1\n64 1\n72 1\n80 1\n88 1\nabcdefghijkl" + silence[12:] + "\n"},
	}
	for _, c := range cases {
		f := mustReadFrame(t, c.frame)
		wantEqual(t, impl.ProgrammeText(f, c.p), c.want, "text of", rawProgramme(c.p))
		read, code := impl.ReadProgramme(f, c.want)
		wantProgramme(t, read, code, marked(c.p), "read", c.want)
		wantEqual(t, impl.SameProgramme(read, c.p), true, "read", c.want)
	}
	f := mustReadFrame(t, chimeFrame)
	for _, p := range invalidProgrammesFor(f) {
		wantEqual(t, impl.ProgrammeText(f, p), "", "text of no programme", rawProgramme(p))
	}
	for _, f := range invalidFrames() {
		wantEqual(t, impl.ProgrammeText(f, programme("")), "", "text for no frame", rawFrame(f))
	}
}

func TestReadProgramme(t *testing.T) {
	f := mustReadFrame(t, chimeFrame)
	last := "ba" + silence[2:] + "\n"
	for _, text := range []string{
		"",
		"\n",
		silence,
		silence + "\n\n",
		"\n" + silence + "\n",
		silence[1:] + "\n",
		silence + ".\n",
		silence + " \n",
		" " + silence + "\n",
		silence + "\r\n",
		silence + "\n" + silence + "\n",
		"a" + silence[1:] + "\n",
		"0 3\n4 2\n",
		"0 3\n4 2\n" + last[:48],
		"0 3\n4 2\n" + last + "\n",
		"0 3\n4 2 " + last,
		"0 3\n\n4 2\n" + last,
		"0 3 4 2\n" + last,
		"0 3\n4 2\nb" + last,
		"0 3\n4 2\nbac" + silence[3:] + "\n",
		"0 3\n4 2\nbA" + silence[2:] + "\n",
		"0 3\n4 2\nb`" + silence[2:] + "\n",
		"0 3\n4 2\nb\xff" + silence[2:] + "\n",
		"0 3\n4 2\nbé" + silence[2:] + "\n",
		"0 3\n4 2\nbé" + silence[3:] + "\n",
		"00 3\n4 2\n" + last,
		"0 03\n4 2\n" + last,
		"+0 3\n4 2\n" + last,
		"-0 3\n4 2\n" + last,
		"0 +3\n4 2\n" + last,
		"0 -3\n4 2\n" + last,
		"0  3\n4 2\n" + last,
		" 0 3\n4 2\n" + last,
		"0 3 \n4 2\n" + last,
		"0\t3\n4 2\n" + last,
		"0 3\n4  2\n" + last,
		"0 3\n4 2 \n" + last,
		"0 3\n4 0\n" + last,
		"0 3\n4 5\n" + last,
		"0 5\n4 2\n" + last,
		"0 3\n8 1\n" + last,
		"4 2\n0 3\n" + last,
		"0 3\n65540 2\n" + last,
		"0 3\n4 65538\n" + last,
		"0 3\n4 99999999999999999999\n" + last,
		"0 3\n" + last,
		"0x0 3\n4 2\n" + last,
		"0 3_0\n4 2\n" + last,
		"0 3\r\n4 2\r\n" + last,
		strings.ToUpper("0 3\n4 2\n" + last),
	} {
		read, code := impl.ReadProgramme(f, text)
		wantProgramme(t, read, code, "[syntax]", "read", text)
	}
	lines := "0 1\n1 1\n2 1\n3 1\n4 1\n5 1\n6 1\n7 1\n8 1\n9 1\n10 1\n11 1\n"
	great := frame(96, 24, 1)
	read, code := impl.ReadProgramme(great, lines+silence+"\n")
	wantEqual(t, fmt.Sprint(len(read.Sections), code), "12 0", "MaxSections sections")
	read, code = impl.ReadProgramme(great, lines+"12 1\n"+silence+"\n")
	wantProgramme(t, read, code, "[syntax]", "a section too many")
	read, code = impl.ReadProgramme(great, lines+"12 1\n13 1\n"+silence+"\n")
	wantProgramme(t, read, code, "[syntax]", "two sections too many")
	for _, end := range []string{"", "\n\n", "\n ", "\n" + silence, "\n" + silence + "\n", "\n12 1\n" + silence + "\n", "\n\n\n\n"} {
		read, code = impl.ReadProgramme(great, lines+silence+end)
		wantProgramme(t, read, code, "[syntax]", "MaxSections sections, and another end:", end)
	}
	for _, f := range invalidFrames() {
		for _, text := range []string{"", "0 1\n" + silence + "\n", silence + "\n"} {
			read, code = impl.ReadProgramme(f, text)
			wantProgramme(t, read, code, "[invalid]", "read for no frame", rawFrame(f))
		}
	}
}
