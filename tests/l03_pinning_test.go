package tests

import (
	"fmt"
	"math"
	"strings"
	"testing"

	"loop.example/g01311/impl"
)

// This file has chapter 3's results written out: the document's example, its edges, and its errors.

const (
	pairFrame = "8 c2/3 c2/3 e2/2"
	pairTune  = "0:c2 2:c2 4:e2"
	// backFrame and backTune are pinned behind going back: the first track of the second note is the wrong one.
	backFrame = "6 c2/2 c2/3"
	backTune  = "0:c2 2:c2 3:c2 5:c2"
)

func mustReadTune(t *testing.T, text string) impl.Tune {
	t.Helper()
	read, code := impl.ReadTune(text)
	wantEqual(t, code, impl.OK, "read", text)
	return read
}

// shown shows results, or a code in brackets, beside which all results have to be zero values.
func shown(t *testing.T, code int64, results ...any) string {
	t.Helper()
	_, text, _ := strings.Cut(answers(code, results...), "; ")
	if code == impl.OK {
		return text
	}
	zeros := withoutZeros(text)
	wantEqual(t, zeros, "", "nothing with an error")
	return "[" + impl.CodeName(code) + "]"
}

func TestPinningLimits(t *testing.T) {
	wantEqual(t, fmt.Sprint(impl.MaxTries, impl.MaxSame), "20000 14", "limits")
}

func TestPinningExample(t *testing.T) {
	f, u, v := mustReadFrame(t, pairFrame), mustReadTune(t, pairTune), mustReadTune(t, "0:c2 1:c2 2:c2")
	d, tries, code := impl.PinTune(f, u, 100)
	wantEqual(t, answers(code, d, tries), "ok; 0:1 2:2 4:4; 3", "pinned")
	tracks, code := impl.TracksOf(f, u, d)
	wantEqual(t, answers(code, tracks), "ok; [0 1 2]", "tracks")
	_, _, code = impl.PinTune(f, v, 100)
	wantEqual(t, code, impl.ErrNotFound, "three notes for two hammers")
	step, pitch, count, code := impl.CrowdedAt(f, v)
	wantEqual(t, answers(code, step, pitch, count), "ok; 0; 24; 3", "crowded")
	few, code := impl.HammersNeeded(8, 3, []int64{0, 2, 4, 6})
	wantEqual(t, answers(code, few), "ok; 2", "needed of 8 steps")
	odd, code := impl.HammersNeeded(5, 2, []int64{0, 1, 2, 3, 4})
	wantEqual(t, answers(code, odd), "ok; 3", "needed of 5 steps")
	needless, code := impl.NeedlessTracks(f, u)
	wantEqual(t, answers(code, needless), "ok; []", "needless")
}

func TestPinTune(t *testing.T) {
	cases := []struct {
		name, frame, tune string
		budget            int64
		want              string
	}{
		{"the empty tune", "8 c2/3", "", 0, "; 0"},
		{"one hammer", "8 c2/3", "0:c2 3:c2", 2, "0:1 3:1; 2"},
		{"one try less", "8 c2/3", "0:c2 3:c2", 1, "[budget]"},
		{"no try", "8 c2/3", "0:c2 3:c2", 0, "[budget]"},
		{"all tries", "8 c2/3", "0:c2 3:c2", impl.MaxTries, "0:1 3:1; 2"},
		{"more than all tries", "8 c2/3", "0:c2 3:c2", impl.MaxTries + 1, "[range]"},
		{"less than no try", "8 c2/3", "0:c2 3:c2", -1, "[range]"},
		{"the least budget", "8 c2/3", "", math.MinInt64, "[range]"},
		{"the greatest budget", "8 c2/3", "", math.MaxInt64, "[range]"},
		{"a budget of more bits", "8 c2/3", "0:c2", 1<<32 + 5, "[range]"},
		{"not ready", "8 c2/3", "0:c2 2:c2", 9, "[notfound]"},
		{"not ready, just enough tries", "8 c2/3", "0:c2 2:c2", 1, "[notfound]"},
		{"not ready, a try less", "8 c2/3", "0:c2 2:c2", 0, "[budget]"},
		{"no hammer", "8 c2/3", "0:e2", 0, "[notfound]"},
		{"no hammer for the second note", "8 c2/3", "0:c2 1:e2", 1, "[notfound]"},
		{"no hammer for the second note, no try", "8 c2/3", "0:c2 1:e2", 0, "[budget]"},
		{"a note at the last step", "8 c2/3", "7:c2", 1, "7:1; 1"},
		{"a note at Steps", "8 c2/3", "8:c2", 9, "[range]"},
		{"a note at the greatest step", "8 c2/3", "0:c2 199:c2", 9, "[range]"},
		{"struck again at the step 0", "8 c2/3", "0:c2 6:c2", 9, "[notfound]"},
		{"just ready at the step 0", "8 c2/3", "0:c2 5:c2", 9, "0:1 5:1; 2"},
		{"struck again at the step 0 by another hammer", "8 c2/3 c2/3", "0:c2 6:c2", 9, "0:1 6:2; 2"},
		{"ready at the next step", "2 c2/1", "0:c2 1:c2", 2, "0:1 1:1; 2"},
		{"ready in all steps", "2 c2/2", "0:c2 1:c2", 9, "[notfound]"},
		{"two hammers that are ready in all steps", "2 c2/2 c2/2", "0:c2 1:c2", 9, "0:1 1:2; 2"},
		{"goes back", backFrame, backTune, 6, "0:1 2:2 3:1 5:2; 6"},
		{"goes back, one try less", backFrame, backTune, 5, "[budget]"},
		{"goes back to the end", "8 c2/3 c2/3", "0:c2 1:c2 2:c2", 4, "[notfound]"},
		{"goes back to the end, one try less", "8 c2/3 c2/3", "0:c2 1:c2 2:c2", 3, "[budget]"},
		{"each hammer has its time", "8 c2/8 c2/2", "0:c2 2:c2 4:c2 6:c2", 9, "0:1 2:2 4:2 6:2; 4"},
		{"a chord", "8 e2/3 c2/3 e2/3", "0:c2 0:e2", 9, "0:3; 2"},
		{"tracks in ascending order", "8 e2/3 c2/3 e2/3", "0:e2 1:e2", 9, "0:1 1:4; 2"},
		{"the longest time", "96 c3/20", "0:c3 20:c3 40:c3 76:c3", 9, "0:1 20:1 40:1 76:1; 4"},
		{"too long a time", "96 c3/20", "0:c3 20:c3 40:c3 77:c3", 9, "[notfound]"},
	}
	for _, c := range cases {
		d, tries, code := impl.PinTune(mustReadFrame(t, c.frame), mustReadTune(t, c.tune), c.budget)
		wantEqual(t, shown(t, code, d, tries), c.want, "pin:", c.name)
	}
}

// TestPinManyNotes has as many notes, steps and hammers as there can be.
func TestPinManyNotes(t *testing.T) {
	cases := []struct {
		name string
		f    impl.Frame
		tune impl.Tune
		want string
	}{
		{"a hammer that is always ready", frame(96, 24, 1), row(96, 0, 24, 1, 0), "96 0"},
		{"a step too many", frame(95, 24, 1), row(96, 0, 24, 1, 0), "0 2"},
		{"MaxNotes notes", likeHammers(96, 24, 0, 1, 4), allPitches(120, 24, 4), "120 0"},
		{"all hammers of one pitch", likeHammers(96, 24, 24, 0, 20), row(24, 72, 24, 1, 0), "24 0"},
	}
	for _, c := range cases {
		d, tries, code := impl.PinTune(c.f, c.tune, impl.MaxTries)
		wantEqual(t, fmt.Sprint(tries, code), c.want, c.name)
		e, code := impl.PinGreedily(c.f, c.tune)
		wantEqual(t, e, d, c.name, code)
		is, code := impl.CheckPinning(c.f, c.tune, d)
		wantEqual(t, is, code == impl.OK, c.name, code)
	}
	most := likeHammers(96, 24, 24, 0, 20)
	_, _, code := impl.PinTune(most, row(96, 0, 24, 1, 0), impl.MaxTries)
	wantEqual(t, code, impl.ErrBudget, "each hammer would have to wait longer than it needs")
}

// allPitches makes count notes of the first pitches, a chord of all of them each so many steps.
func allPitches(count, pitches, steps int) impl.Tune {
	var t impl.Tune
	for i := range count {
		t = append(t, impl.Note{At: int16(i / pitches * steps), Pitch: int8(i % pitches)})
	}
	return t
}

func TestPinGreedily(t *testing.T) {
	cases := []struct{ name, frame, tune, drum, first string }{
		{"the empty tune", "8 c2/3", "", "", "[notfound]"},
		{"the example", pairFrame, pairTune, "0:1 2:2 4:4", "[notfound]"},
		{"never goes back", backFrame, backTune, "[notfound]", "3"},
		{"crowded", pairFrame, "0:c2 1:c2 2:c2", "[notfound]", "2"},
		{"no hammer", pairFrame, "0:d2", "[notfound]", "0"},
		{"no hammer for a later note", pairFrame, "0:c2 7:d2", "[notfound]", "1"},
		{"the last step", pairFrame, "7:e2", "7:4", "[notfound]"},
		{"struck again at the step 0", pairFrame, "0:e2 7:e2", "[notfound]", "1"},
		{"a note at Steps", pairFrame, "0:d2 8:c2", "[range]", "[range]"},
	}
	for _, c := range cases {
		f, u := mustReadFrame(t, c.frame), mustReadTune(t, c.tune)
		d, code := impl.PinGreedily(f, u)
		wantEqual(t, shown(t, code, d), c.drum, "greedily:", c.name)
		first, code := impl.FirstUnpinned(f, u)
		wantEqual(t, shown(t, code, first), c.first, "first unpinned:", c.name)
	}
}

func TestTracksOf(t *testing.T) {
	cases := []struct {
		name, frame, tune string
		d                 impl.Drum
		want              string
	}{
		{"the example", pairFrame, pairTune, pinned(0, 0, 2, 1, 4, 2), "[0 1 2]"},
		{"the other way", pairFrame, pairTune, pinned(0, 1, 2, 0, 4, 2), "[1 0 2]"},
		{"the empty tune", pairFrame, "", impl.Drum{}, "[]"},
		{"the empty tune, and a pin", pairFrame, "", pinned(7, 2), "[proof]"},
		{"a pin less", pairFrame, pairTune, pinned(0, 0, 2, 1), "[proof]"},
		{"a pin more", pairFrame, pairTune, pinned(0, 0, 2, 1, 4, 2, 6, 2), "[proof]"},
		{"two pins for a note", pairFrame, pairTune, pinned(0, 0, 2, 1, 4, 2, 0, 1), "[proof]"},
		{"two pins for a note, none for another one", pairFrame, "0:c2 4:c2", pinned(0, 0, 0, 1), "[proof]"},
		{"two pins for a note, far from others", pairFrame, "0:c2", pinned(0, 0, 0, 1), "[proof]"},
		{"another step", pairFrame, pairTune, pinned(0, 0, 3, 1, 4, 2), "[proof]"},
		{"another pitch", pairFrame, pairTune, pinned(0, 0, 2, 2, 4, 2), "[proof]"},
		{"a clash", pairFrame, pairTune, pinned(0, 0, 2, 0, 4, 2), "[proof]"},
		{"a clash behind the last step", pairFrame, "0:c2 6:c2", pinned(0, 0, 6, 0), "[proof]"},
		{"just ready behind the last step", pairFrame, "0:c2 5:c2", pinned(0, 0, 5, 0), "[0 0]"},
		{"the last step", "8 c2/8", "7:c2", pinned(7, 0), "[0]"},
		{"no hammer", pairFrame, "0:d2", pinned(0, 0), "[proof]"},
		{"a note at Steps", pairFrame, "8:c2", pinned(0, 0), "[range]"},
		{"a track too many", pairFrame, pairTune, pinned(0, 3), "[invalid]"},
		{"a step too many", pairFrame, pairTune, pinned(8, 0), "[invalid]"},
	}
	for _, c := range cases {
		f, u := mustReadFrame(t, c.frame), mustReadTune(t, c.tune)
		list, code := impl.TracksOf(f, u, c.d)
		wantEqual(t, shown(t, code, list), c.want, "tracks:", c.name)
		text := strings.Replace(c.want, "[proof]", "false", 1)
		if code == impl.OK {
			text = "true"
		}
		is, code := impl.CheckPinning(f, u, c.d)
		wantEqual(t, shown(t, code, is), text, "check:", c.name)
	}
}

func TestCrowdedAt(t *testing.T) {
	cases := []struct{ name, frame, tune, want string }{
		{"the empty tune", pairFrame, "", "[notfound]"},
		{"the example", pairFrame, "0:c2 1:c2 2:c2", "0; 24; 3"},
		{"not crowded", pairFrame, pairTune, "[notfound]"},
		{"as many notes as hammers", pairFrame, "0:c2 2:c2 4:e2 6:e2", "[notfound]"},
		{"around the last step", pairFrame, "0:c2 6:c2 7:c2", "6; 24; 3"},
		{"all around", "4 c2/4 c2/4", "0:c2 1:c2 3:c2", "0; 24; 3"},
		{"a step without a note is the first one", "8 c2/3 c2/4", "1:c2 2:c2 3:c2", "1; 24; 3"},
		{"from a step without a note", "8 c2/4 c2/4", "1:c2 2:c2 3:c2", "0; 24; 3"},
		{"the step 0 is ahead of one with more notes", "8 c2/4", "2:c2 3:c2 5:c2", "0; 24; 2"},
		{"the least time of several hammers", "8 c2/2 c2/8", "0:c2 2:c2 4:c2", "[notfound]"},
		{"the least time of several hammers, the other way", "8 c2/8 c2/2", "0:c2 2:c2 4:c2", "[notfound]"},
		{"hammers of other pitches do not matter", "8 c2/3 e2/1", "0:c2 2:c2", "0; 24; 2"},
		{"no hammer", pairFrame, "0:c2 5:d2", "5; 26; 1"},
		{"no hammer for the notes of two steps", pairFrame, "5:d2 6:d2", "5; 26; 1"},
		{"the least pitch first", pairFrame, "0:e2 1:e2 6:c2 7:c2 0:c2", "6; 24; 3"},
		{"no hammer for a higher pitch", pairFrame, "0:c2 0:f2 1:c2 2:c2", "0; 24; 3"},
		{"the last step", "8 c2/1", "7:d2", "7; 26; 1"},
		{"ready at the next step", "8 c2/1", "0:c2 1:c2 7:c2", "[notfound]"},
		{"a note at Steps", pairFrame, "0:c2 1:c2 2:c2 8:c2", "[range]"},
	}
	for _, c := range cases {
		var u impl.Tune
		for _, part := range strings.Fields(c.tune) {
			u = append(u, mustReadTune(t, part)...)
		}
		u, code := impl.MakeTune(u)
		wantEqual(t, code, impl.OK, "tune", c.tune)
		step, pitch, count, code := impl.CrowdedAt(mustReadFrame(t, c.frame), u)
		wantEqual(t, shown(t, code, step, pitch, count), c.want, "crowded:", c.name)
	}
}

// numbersBy are count numbers from one on, each by so many greater than the one before.
func numbersBy(count int, from, by int64) []int64 {
	var list []int64
	for i := range int64(count) {
		list = append(list, from+i*by)
	}
	return list
}

func TestHammersNeeded(t *testing.T) {
	cases := []struct {
		name         string
		steps, ready int64
		ats          []int64
		want         string
	}{
		{"no pin", 8, 3, nil, "0"},
		{"no pin in the least drum", 2, 2, []int64{}, "0"},
		{"one pin", 8, 8, []int64{7}, "1"},
		{"all steps, ready at the next one", 8, 1, numbersBy(8, 0, 1), "1"},
		{"both steps", 2, 2, []int64{0, 1}, "2"},
		{"two pins, just ready", 6, 3, []int64{1, 4}, "1"},
		{"two pins, not ready", 6, 3, []int64{1, 5}, "2"},
		{"not ready at the step 0", 8, 3, []int64{0, 6}, "2"},
		{"just ready at the step 0", 8, 3, []int64{0, 5}, "1"},
		{"a hammer for each", 5, 5, []int64{0, 1, 2, 3, 4}, "5"},
		{"an odd circle", 7, 2, numbersBy(7, 0, 1), "3"},
		{"an even circle", 8, 2, numbersBy(8, 0, 1), "2"},
		{"pairs of seven", 7, 3, numbersBy(7, 0, 1), "4"},
		{"threes of eight", 8, 3, numbersBy(8, 0, 1), "4"},
		{"threes of ten", 10, 3, numbersBy(10, 0, 1), "4"},
		{"threes of eleven", 11, 3, numbersBy(11, 0, 1), "4"},
		{"MaxSame pins, a circle", 14, 2, numbersBy(14, 0, 1), "2"},
		{"MaxSame pins, pairs", 14, 6, numbersBy(14, 0, 1), "7"},
		{"MaxSame pins, all together", 14, 14, numbersBy(14, 0, 1), "14"},
		{"MaxSame pins in a great drum", 96, 20, numbersBy(14, 0, 7), "4"},
		{"MaxSame pins near each other", 96, 20, numbersBy(14, 82, 1), "14"},
		{"MaxSame pins, ready at the next step", 96, 1, numbersBy(14, 0, 1), "1"},
		{"one more", 96, 1, numbersBy(15, 0, 1), "[limit]"},
		{"many more", 96, 20, numbersBy(96, 0, 1), "[limit]"},
		{"one more, and too far", 14, 1, numbersBy(15, 0, 1), "[range]"},
		{"one more, not rising", 96, 1, append(numbersBy(14, 0, 1), 13), "[range]"},
		{"equal numbers", 8, 3, []int64{2, 2}, "[range]"},
		{"falling numbers", 8, 3, []int64{4, 2}, "[range]"},
		{"falling at the end", 8, 3, []int64{0, 2, 4, 3}, "[range]"},
		{"below 0", 8, 3, []int64{-1, 2}, "[range]"},
		{"at Steps", 8, 3, []int64{0, 8}, "[range]"},
		{"far numbers", 8, 3, []int64{math.MinInt64, math.MaxInt64}, "[range]"},
		{"the greatest number", 8, 3, []int64{math.MaxInt64}, "[range]"},
		{"numbers of more bits", 8, 3, []int64{1 << 32}, "[range]"},
		{"too few steps", 1, 1, nil, "[range]"},
		{"no steps", 0, 0, nil, "[range]"},
		{"the least drum", 2, 1, []int64{1}, "1"},
		{"the greatest drum", 96, 20, []int64{95}, "1"},
		{"too many steps", 97, 20, []int64{95}, "[range]"},
		{"ready too soon", 8, 0, nil, "[range]"},
		{"ready too late", 96, 21, nil, "[range]"},
		{"ready behind all steps", 8, 9, nil, "[range]"},
		{"ready in MaxReady of as many steps", 20, 20, []int64{0, 19}, "2"},
		{"ready in MaxReady, fewer steps", 19, 20, nil, "[range]"},
		{"the least numbers", math.MinInt64, math.MinInt64, nil, "[range]"},
		{"the greatest numbers", math.MaxInt64, math.MaxInt64, nil, "[range]"},
		{"steps of more bits", 1<<32 + 8, 3, nil, "[range]"},
		{"ready of more bits", 8, 1<<32 + 3, nil, "[range]"},
	}
	for _, c := range cases {
		count, code := impl.HammersNeeded(c.steps, c.ready, c.ats)
		wantEqual(t, shown(t, code, count), c.want, "needed:", c.name)
	}
}

func TestFrameFor(t *testing.T) {
	full := strings.Repeat(" c2/20", 14) + strings.Repeat(" e2/20", 10)
	two := append(row(14, 0, 24, 1, 0), row(11, 30, 28, 1, 0)...)
	cases := []struct {
		name         string
		steps, ready int64
		tune         impl.Tune
		want         string
	}{
		{"the example's tune", 8, 3, notes(0, 24, 2, 24, 4, 28), "8 c2/3 c2/3 e2/3"},
		{"ordered by pitch", 8, 2, notes(0, 28, 1, 26, 3, 24), "8 c2/2 d2/2 e2/2"},
		{"the lowest and the highest pitch", 96, 20, notes(0, 47, 95, 0), "96 c0/20 b3/20"},
		{"struck again at the step 0", 8, 2, notes(0, 24, 7, 24), "8 c2/2 c2/2"},
		{"an odd circle", 5, 2, row(5, 0, 24, 1, 0), "5 c2/2 c2/2 c2/2"},
		{"MaxTracks hammers", 96, 20, two[:24], "96" + full},
		{"one more", 96, 20, two, "[limit]"},
		{"MaxTracks pitches", 8, 8, row(24, 0, 0, 0, 2), "8" + hammerList(24, 2, 8)},
		{"one pitch more", 8, 8, row(25, 0, 0, 0, 1), "[limit]"},
		{"MaxSame notes of a pitch", 96, 1, row(14, 0, 24, 1, 0), "96 c2/1"},
		{"one note more", 96, 1, row(15, 0, 24, 1, 0), "[limit]"},
		{"one note more of the higher pitch", 96, 1, append(notes(0, 0), row(15, 1, 24, 1, 0)...), "[limit]"},
		{"one note more of the lower pitch", 96, 1, append(row(15, 0, 0, 1, 0), notes(15, 1)...), "[limit]"},
		{"the empty tune", 8, 3, nil, "[notfound]"},
		{"the empty tune in no drum", 1, 1, nil, "[range]"},
		{"the last step", 8, 8, notes(7, 24), "8 c2/8"},
		{"a note at Steps", 8, 3, notes(8, 24), "[range]"},
		{"a note at Steps, and too many", 15, 1, row(16, 0, 24, 1, 0), "[range]"},
		{"too many steps", 97, 3, notes(0, 24), "[range]"},
		{"too few steps", 1, 1, notes(0, 24), "[range]"},
		{"ready too soon", 8, 0, notes(0, 24), "[range]"},
		{"ready too late", 96, 21, notes(0, 24), "[range]"},
		{"ready behind all steps", 8, 9, notes(0, 24), "[range]"},
		{"steps of more bits", 1<<16 + 8, 3, notes(0, 24), "[range]"},
		{"ready of more bits", 8, 256 + 3, notes(0, 24), "[range]"},
		{"the least numbers", math.MinInt64, math.MinInt64, notes(0, 24), "[range]"},
		{"the greatest numbers", math.MaxInt64, math.MaxInt64, notes(0, 24), "[range]"},
		{"no tune", 97, 0, notes(0, 24, 0, 24), "[invalid]"},
	}
	for _, c := range cases {
		f, code := impl.FrameFor(c.steps, c.ready, c.tune)
		text := impl.FrameText(f)
		if code != impl.OK {
			text = shown(t, code, f)
		}
		wantEqual(t, text, c.want, "frame:", c.name)
	}
}

// hammerList is the text of hammers from c0 on, each one some half steps above the one before.
func hammerList(count, by, ready int) string {
	text := ""
	for i := range count {
		text += fmt.Sprintf(" %s/%d", impl.PitchName(int64(i*by)), ready)
	}
	return text
}

func TestPinLike(t *testing.T) {
	cases := []struct {
		name, frame string
		old         impl.Drum
		tune        string
		budget      int64
		want        string
	}{
		{"the empty tune", pairFrame, pinned(0, 0), "", 0, "; 0; 0"},
		{"no old pin", pairFrame, impl.Drum{}, pairTune, 6, "0:1 2:2 4:4; 3; 6"},
		{"no old pin, one try less", pairFrame, impl.Drum{}, pairTune, 5, "[budget]"},
		{"the old drum", pairFrame, pinned(0, 0, 2, 1, 4, 2), pairTune, 4, "0:1 2:2 4:4; 0; 4"},
		{"the old drum, a try less", pairFrame, pinned(0, 0, 2, 1, 4, 2), pairTune, 3, "[budget]"},
		{"the other way", pairFrame, pinned(0, 1, 2, 0), pairTune, 6, "0:2 2:1 4:4; 1; 6"},
		{"the other way, a try less", pairFrame, pinned(0, 1, 2, 0), pairTune, 5, "[budget]"},
		{"the other way, no try", pairFrame, pinned(0, 1, 2, 0), pairTune, 0, "[budget]"},
		{"one old pin", pairFrame, pinned(2, 0), pairTune, 9, "0:2 2:1 4:4; 2; 6"},
		{"the first one of two", pairFrame, pinned(0, 0, 2, 0), pairTune, 9, "0:1 2:2 4:4; 2; 6"},
		{"old pins with clashes", pairFrame, fullDrum(frame(8, 1, 1, 1, 1, 1, 1)), pairTune, 9, "0:1 2:2 4:4; 0; 4"},
		{"old pins elsewhere", pairFrame, pinned(0, 2, 2, 2, 4, 0, 7, 1), pairTune, 9, "0:1 2:2 4:4; 3; 6"},
		{"goes back", backFrame, impl.Drum{}, backTune, 10, "0:1 2:2 3:1 5:2; 4; 10"},
		{"goes back, a try less", backFrame, impl.Drum{}, backTune, 9, "[budget]"},
		{"not ready", "8 c2/3", pinned(0, 0, 2, 0), "0:c2 2:c2", 1, "[notfound]"},
		{"not ready, no try", "8 c2/3", pinned(0, 0, 2, 0), "0:c2 2:c2", 0, "[budget]"},
		{"no hammer", pairFrame, impl.Drum{}, "0:d2", 0, "[notfound]"},
		{"all tries", pairFrame, impl.Drum{}, "0:e2", impl.MaxTries, "0:4; 1; 1"},
		{"more than all tries", pairFrame, impl.Drum{}, "0:e2", impl.MaxTries + 1, "[range]"},
		{"less than no try", pairFrame, impl.Drum{}, "0:e2", -1, "[range]"},
		{"the least budget", pairFrame, impl.Drum{}, "", math.MinInt64, "[range]"},
		{"the greatest budget", pairFrame, impl.Drum{}, "", math.MaxInt64, "[range]"},
		{"the last step", pairFrame, pinned(7, 1), "7:c2", 2, "7:2; 0; 2"},
		{"a note at Steps", pairFrame, impl.Drum{}, "8:c2", 9, "[range]"},
		{"an old drum that is none", pairFrame, pinned(8, 0), "8:c2", -1, "[invalid]"},
	}
	for _, c := range cases {
		d, fresh, tries, code := impl.PinLike(mustReadFrame(t, c.frame), c.old, mustReadTune(t, c.tune), c.budget)
		wantEqual(t, shown(t, code, d, fresh, tries), c.want, "like:", c.name)
	}
}

func TestSpareTracks(t *testing.T) {
	f := mustReadFrame(t, pairFrame)
	for _, c := range []struct {
		d    impl.Drum
		want string
	}{
		{impl.Drum{}, "[0 1 2]"},
		{pinned(0, 0), "[1 2]"},
		{pinned(7, 2), "[0 1]"},
		{pinned(3, 1, 7, 1), "[0 2]"},
		{pinned(0, 0, 3, 1, 7, 2), "[]"},
		{pinned(0, 3), "[invalid]"},
		{pinned(8, 0), "[invalid]"},
	} {
		list, code := impl.SpareTracks(f, c.d)
		wantEqual(t, shown(t, code, list), c.want, "spare tracks", rawDrum(c.d))
	}
	most := likeHammers(96, 24, 0, 2, 20)
	list, code := impl.SpareTracks(most, pinned(95, 0, 0, 22))
	wantEqual(t, answers(code, list), "ok; [1 2 3 4 5 6 7 8 9 10 11 12 13 14 15 16 17 18 19 20 21 23]", "spare tracks of MaxTracks")
}

func TestWithoutTrack(t *testing.T) {
	cases := []struct {
		name, frame string
		d           impl.Drum
		track       int64
		want        string
	}{
		{"the first one", pairFrame, pinned(0, 1, 7, 2), 0, "8 [{24 3} {28 2}]; 0:1 7:2"},
		{"one in the middle", pairFrame, pinned(0, 0, 3, 2, 5, 0, 5, 2), 1, "8 [{24 3} {28 2}]; 0:1 3:2 5:3"},
		{"the last one", pairFrame, pinned(0, 0, 3, 1), 2, "8 [{24 3} {24 3}]; 0:1 3:2"},
		{"no pin at all", "2 c2/1 e2/2", impl.Drum{}, 0, "2 [{28 2}]; "},
		{"clashes stay", pairFrame, pinned(0, 1, 1, 1), 0, "8 [{24 3} {28 2}]; 0:1 1:1"},
		{"a pin", pairFrame, pinned(0, 1), 1, "[state]"},
		{"a pin at the last step", pairFrame, pinned(7, 2), 2, "[state]"},
		{"the only one", "8 c2/3", impl.Drum{}, 0, "[state]"},
		{"the only one, with a pin", "8 c2/3", pinned(0, 0), 0, "[state]"},
		{"behind the only one", "8 c2/3", impl.Drum{}, 1, "[range]"},
		{"behind the last one", pairFrame, impl.Drum{}, 3, "[range]"},
		{"ahead of the first one", pairFrame, impl.Drum{}, -1, "[range]"},
		{"the least number", pairFrame, impl.Drum{}, math.MinInt64, "[range]"},
		{"the greatest number", pairFrame, impl.Drum{}, math.MaxInt64, "[range]"},
		{"a number of more bits", pairFrame, impl.Drum{}, 1 << 32, "[range]"},
		{"no drum", pairFrame, pinned(0, 3), 9, "[invalid]"},
	}
	for _, c := range cases {
		f, d, code := impl.WithoutTrack(mustReadFrame(t, c.frame), c.d, c.track)
		wantEqual(t, shown(t, code, f, d), c.want, "without:", c.name)
	}
	most := likeHammers(96, 24, 0, 2, 20)
	f, d, code := impl.WithoutTrack(most, pinned(95, 23, 95, 0), 22)
	wantEqual(t, fmt.Sprint(len(f.Hammers), f.Hammers[22], d[95] == 1|1<<22, code), "23 {46 20} true 0", "without one of MaxTracks")
}

func TestNeedlessTracks(t *testing.T) {
	cases := []struct{ name, frame, tune, want string }{
		{"the example", pairFrame, pairTune, "[]"},
		{"one of two", pairFrame, "0:c2 4:e2", "[0 1]"},
		{"no note of a pitch", pairFrame, "0:c2 1:c2", "[2]"},
		{"the empty tune", pairFrame, "", "[0 1 2]"},
		{"one hammer alone", "8 c2/3", "0:c2", "[]"},
		{"one hammer alone, the empty tune", "8 c2/3", "", "[]"},
		{"the slow one of two", "8 c2/8 c2/2", "0:c2 2:c2", "[0]"},
		{"the slow one of two, the other way", "8 c2/2 c2/8", "0:c2 2:c2", "[1]"},
		{"found behind going back", backFrame + " e2/1", backTune, "[2]"},
		{"struck again at the step 0", "8 c2/3 c2/3", "0:c2 6:c2", "[]"},
		{"crowded", pairFrame, "0:c2 1:c2 2:c2", "[]"},
		{"no hammer", pairFrame, "0:d2", "[]"},
		{"a note at Steps", pairFrame, "8:c2", "[range]"},
		{"one hammer alone, a note at Steps", "8 c2/3", "8:c2", "[range]"},
	}
	for _, c := range cases {
		list, code := impl.NeedlessTracks(mustReadFrame(t, c.frame), mustReadTune(t, c.tune))
		wantEqual(t, shown(t, code, list), c.want, "needless:", c.name)
	}
}

const slowFrame = "96 c2/20 c2/2 e2/1 e2/1 f2/1 g2/1"

// slowTune has some notes f2, for one hammer, and then one c2, for which the first hammer is the wrong one. This comes out at the last two notes c2 alone, when all ways of the notes between have been tried: e2 has two hammers, and so has 4096 ways with 12 notes, and each f2 is tried once for each way of the notes before. It takes 19986 tries, and one for each note ahead of these.
func slowTune(ahead int) impl.Tune {
	u := row(ahead, 0, 29, 1, 0)
	at := ahead
	add := func(pitches ...int) {
		for _, pitch := range pitches {
			u = append(u, notes(at, pitch)...)
			at++
		}
	}
	add(24)
	add(28, 28, 28, 28, 28, 28, 28, 28, 28, 29, 28, 29, 28, 29, 28, 29)
	add(24, 24)
	return u
}

func TestPinMostTries(t *testing.T) {
	f := mustReadFrame(t, slowFrame)
	cases := []struct {
		ahead  int
		budget int64
		want   string
	}{
		{0, 19986, "19986 0"},
		{0, 19985, "0 7"},
		{14, impl.MaxTries, "20000 0"},
		{14, impl.MaxTries - 1, "0 7"},
		{15, impl.MaxTries, "0 7"},
	}
	for _, c := range cases {
		d, tries, code := impl.PinTune(f, slowTune(c.ahead), c.budget)
		wantEqual(t, fmt.Sprint(tries, code), c.want, "tries", c.ahead, c.budget)
		is, _ := impl.CheckPinning(f, slowTune(c.ahead), d)
		wantEqual(t, is, code == impl.OK, "pinned", c.ahead, c.budget)
	}
	_, _, _, code := impl.PinLike(f, impl.Drum{}, slowTune(0), impl.MaxTries)
	wantEqual(t, code, impl.ErrBudget, "too many tries for the tracks that are left when a drum is found")
}

// TestNeedlessBudget leaves out the spare hammer g2, which changes no try, and a hammer e2, without which there are few tries.
func TestNeedlessBudget(t *testing.T) {
	for ahead, want := range map[int]string{0: "ok; [2 3 5]", 14: "ok; [2 3 5]", 15: "ok; [2 3]"} {
		list, code := impl.NeedlessTracks(mustReadFrame(t, slowFrame), slowTune(ahead))
		wantEqual(t, answers(code, list), want, "needless within MaxTries", ahead)
	}
}

func TestMovesBetween(t *testing.T) {
	f := mustReadFrame(t, pairFrame)
	cases := []struct {
		a, b impl.Drum
		want string
	}{
		{impl.Drum{}, impl.Drum{}, "[]; []"},
		{pinned(0, 0), pinned(0, 1), "[[0 0]]; [[0 1]]"},
		{pinned(0, 0), pinned(0, 0), "[]; []"},
		{pinned(7, 2), impl.Drum{}, "[[7 2]]; []"},
		{impl.Drum{}, pinned(7, 2), "[]; [[7 2]]"},
		{pinned(7, 0, 0, 2, 0, 0, 3, 1), pinned(3, 1, 4, 2, 4, 0, 1, 1), "[[0 0] [0 2] [7 0]]; [[1 1] [4 0] [4 2]]"},
		{pinned(0, 3), impl.Drum{}, "[invalid]"},
		{impl.Drum{}, pinned(8, 0), "[invalid]"},
	}
	for _, c := range cases {
		out, in, code := impl.MovesBetween(f, c.a, c.b)
		wantEqual(t, shown(t, code, out, in), c.want, "moves", rawDrum(c.a), "to", rawDrum(c.b))
	}
	most := likeHammers(96, 24, 0, 2, 20)
	out, in, code := impl.MovesBetween(most, fullDrum(most), impl.Drum{})
	wantEqual(t, fmt.Sprint(len(out), out[2303], len(in), code), "2304 [95 23] 0 0", "all pins out")
}

func TestApplyMoves(t *testing.T) {
	f, d := mustReadFrame(t, pairFrame), pinned(0, 0, 3, 1, 7, 2)
	cases := []struct {
		name    string
		out, in [][2]int64
		want    string
	}{
		{"no move", nil, nil, "0:1 3:2 7:4"},
		{"no move in lists", [][2]int64{}, [][2]int64{}, "0:1 3:2 7:4"},
		{"one out", [][2]int64{{3, 1}}, nil, "0:1 7:4"},
		{"one in", nil, [][2]int64{{3, 0}}, "0:1 3:3 7:4"},
		{"in any order", [][2]int64{{7, 2}, {0, 0}}, [][2]int64{{5, 1}, {1, 2}, {1, 0}}, "1:5 3:2 5:2"},
		{"out, and in again", [][2]int64{{3, 1}}, [][2]int64{{3, 1}}, "0:1 3:2 7:4"},
		{"a clash", nil, [][2]int64{{1, 0}}, "0:1 1:1 3:2 7:4"},
		{"all out", [][2]int64{{0, 0}, {3, 1}, {7, 2}}, nil, ""},
		{"no pin that is taken out", [][2]int64{{3, 0}}, nil, "[state]"},
		{"no pin that is taken out at last", [][2]int64{{3, 1}, {3, 0}}, nil, "[state]"},
		{"taken out twice", [][2]int64{{3, 1}, {3, 1}}, nil, "[state]"},
		{"a pin that is put in", nil, [][2]int64{{3, 1}}, "[state]"},
		{"put in twice", nil, [][2]int64{{4, 1}, {4, 1}}, "[state]"},
		{"taken out before it is put in", [][2]int64{{4, 1}}, [][2]int64{{4, 1}}, "[state]"},
		{"no such step", [][2]int64{{8, 1}}, nil, "[range]"},
		{"no such track", [][2]int64{{3, 3}}, nil, "[range]"},
		{"no such step to put in", nil, [][2]int64{{8, 1}}, "[range]"},
		{"no such track to put in", nil, [][2]int64{{3, 3}}, "[range]"},
		{"a step below 0", [][2]int64{{-1, 1}}, nil, "[range]"},
		{"a track below 0", nil, [][2]int64{{3, -1}}, "[range]"},
		{"the last step is asked ahead of the first move", [][2]int64{{3, 0}, {8, 0}}, nil, "[range]"},
		{"the pins to put in are asked ahead of the first move", [][2]int64{{3, 0}}, [][2]int64{{1, 1}, {1, 3}}, "[range]"},
		{"a bad move, and a track that does not exist", nil, [][2]int64{{3, 1}, {3, 3}}, "[range]"},
		{"the least numbers", [][2]int64{{math.MinInt64, math.MinInt64}}, nil, "[range]"},
		{"the greatest numbers", nil, [][2]int64{{math.MaxInt64, math.MaxInt64}}, "[range]"},
		{"numbers of more bits", [][2]int64{{1<<32 + 3, 1}}, nil, "[range]"},
		{"a track of more bits", [][2]int64{{3, 1<<32 + 1}}, nil, "[range]"},
	}
	for _, c := range cases {
		moved, code := impl.ApplyMoves(f, d, c.out, c.in)
		wantEqual(t, shown(t, code, moved), c.want, "apply:", c.name)
	}
	moved, code := impl.ApplyMoves(f, pinned(0, 3), [][2]int64{{9, 9}}, nil)
	wantEqual(t, shown(t, code, moved), "[invalid]", "no drum")
}
