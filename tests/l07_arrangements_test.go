package tests

import (
	"fmt"
	"math"
	"slices"
	"strings"
	"testing"

	"loop.example/g01311/impl"
)

// This file has chapter 7's results written out: the document's example, its edges, and its errors.

const (
	// exampleTune is the tune of the document's example, whose frame is twoHammers.
	exampleTune = "0:c2 1:c2 2:e3"
	// longTune needs just MaxLooks looks on threeHammers, with the costs 5, 2 and 1; each note more that no hammer can play is one look more.
	threeHammers = "10 c2/4 c3/4 c2/3"
	longTune     = "0:d0 0:e0 1:c2 1:c3 2:c2 3:c2 4:c2 6:c3 8:c3 9:c3"
)

// costs are those of leaving a note away, of an octave, and of a step.
func costs(away, octave, step int16) impl.Costs {
	return impl.Costs{Away: away, Octave: octave, Step: step}
}

// wholeText is the text of choices, or a code in brackets.
func wholeText(t *testing.T, code int64, list []impl.Choice, more ...any) string {
	t.Helper()
	if code != impl.OK {
		return shown(t, code, append([]any{list}, more...)...)
	}
	return strings.Join(append([]string{impl.ChoicesText(list)}, strings.Fields(fmt.Sprintln(more...))...), "; ")
}

func TestArrangementLimits(t *testing.T) {
	wantEqual(t, fmt.Sprint(impl.MaxLate, impl.MaxCost, impl.MaxLooks), "3 1000 20000", "limits")
}

func TestArrangementsExample(t *testing.T) {
	f, u := mustReadFrame(t, twoHammers), mustReadTune(t, exampleTune)
	first, code := impl.ChoicesFor(f, u[0])
	wantEqual(t, wholeText(t, code, first), "0/0/0 1/0/0 2/0/0 3/0/0 x", "the choices for the first note")
	best, cost, code := impl.Arrange(f, u, costs(10, 2, 1), 20000)
	wantEqual(t, wholeText(t, code, best, cost), "0/0/0 2/0/0 0/-1/1; 4", "the best arrangement")
	best, cost, code = impl.Arrange(f, u, costs(1, 2, 3), 20000)
	wantEqual(t, wholeText(t, code, best, cost), "0/0/0 x x; 2", "the best arrangement with other costs")
}

func TestValidCosts(t *testing.T) {
	for _, c := range []impl.Costs{{}, costs(1000, 1000, 1000), costs(1000, 0, 0), costs(0, 1000, 0), costs(0, 0, 1000), costs(10, 2, 1)} {
		wantEqual(t, impl.ValidCosts(c), true, "costs", c)
	}
	for _, n := range []int16{-1, 1001, math.MinInt16, math.MaxInt16} {
		for _, c := range []impl.Costs{costs(n, 0, 0), costs(0, n, 0), costs(0, 0, n), costs(n, 1000, 1000), costs(1000, n, 1000), costs(1000, 1000, n)} {
			wantEqual(t, impl.ValidCosts(c), false, "costs", c)
		}
	}
}

func TestValidChoice(t *testing.T) {
	for _, x := range choices("x 0/0/0 -3/0/0 3/0/0 0/-1/0 0/1/0 0/0/23 -3/-1/23 3/1/23 -3/1/0 3/-1/12 -1/0/1") {
		wantEqual(t, impl.ValidChoice(x), true, "choice", x)
	}
	for _, x := range invalidChoices() {
		wantEqual(t, impl.ValidChoice(x), false, "choice", x)
	}
}

func TestChoicesFor(t *testing.T) {
	cases := []struct{ name, frame, note, want string }{
		{"the step 0", twoHammers, "0:c2", "0/0/0 1/0/0 2/0/0 3/0/0 x"},
		{"the step 1", twoHammers, "1:c2", "0/0/0 -1/0/0 1/0/0 2/0/0 3/0/0 x"},
		{"the step 2", twoHammers, "2:c2", "0/0/0 -1/0/0 1/0/0 -2/0/0 2/0/0 3/0/0 x"},
		{"the step MaxLate", twoHammers, "3:c2", "0/0/0 -1/0/0 1/0/0 -2/0/0 2/0/0 -3/0/0 3/0/0 x"},
		{"MaxLate steps ahead of the last one", twoHammers, "4:c2", "0/0/0 -1/0/0 1/0/0 -2/0/0 2/0/0 -3/0/0 3/0/0 x"},
		{"near the last step", twoHammers, "5:c2", "0/0/0 -1/0/0 1/0/0 -2/0/0 2/0/0 -3/0/0 x"},
		{"the last step", twoHammers, "7:c2", "0/0/0 -1/0/0 -2/0/0 -3/0/0 x"},
		{"one step more", twoHammers, "8:c2", "-1/0/0 -2/0/0 -3/0/0 x"},
		{"two steps more", twoHammers, "9:c2", "-2/0/0 -3/0/0 x"},
		{"MaxLate steps more", twoHammers, "10:c2", "-3/0/0 x"},
		{"too far behind", twoHammers, "11:c2", "x"},
		{"as far behind as can be", twoHammers, "199:c2", "x"},
		{"the other hammer", twoHammers, "7:e2", "0/0/1 -1/0/1 -2/0/1 -3/0/1 x"},
		{"no hammer", twoHammers, "3:d2", "x"},
		{"no hammer, two octaves away", twoHammers, "3:c0", "x"},
		{"an octave lower", twoHammers, "0:e3", "0/-1/1 1/-1/1 2/-1/1 3/-1/1 x"},
		{"an octave higher", twoHammers, "7:c1", "0/1/0 -1/1/0 -2/1/0 -3/1/0 x"},
		{"two hammers with the pitch", twoForOne, "0:c2", "0/0/0 0/0/2 1/0/0 1/0/2 2/0/0 2/0/2 3/0/0 3/0/2 x"},
		{"all octaves", "3 c1/1 c3/1 c2/1", "1:c2", "0/0/2 0/-1/0 0/1/1 -1/0/2 -1/-1/0 -1/1/1 1/0/2 1/-1/0 1/1/1 x"},
		{"both other octaves", "3 c3/1 c1/1", "0:c2", "0/-1/1 0/1/0 1/-1/1 1/1/0 2/-1/1 2/1/0 x"},
		{"several hammers of all octaves", "2 c3/1 c2/1 c1/1 c2/1 c1/1 c3/1", "1:c2", "0/0/1 0/0/3 0/-1/2 0/-1/4 0/1/0 0/1/5 -1/0/1 -1/0/3 -1/-1/2 -1/-1/4 -1/1/0 -1/1/5 x"},
		{"the least pitch", "2 c0/1 c1/1", "0:c0", "0/0/0 0/1/1 1/0/0 1/1/1 x"},
		{"the greatest pitch", "2 b3/1 b2/1", "0:b3", "0/0/0 0/-1/1 1/0/0 1/-1/1 x"},
		{"the least frame", "2 c2/2", "1:c2", "0/0/0 -1/0/0 x"},
		{"the last step of the greatest frame", "96 c2/1", "95:c2", "0/0/0 -1/0/0 -2/0/0 -3/0/0 x"},
		{"behind the greatest frame", "96 c2/1", "98:c2", "-3/0/0 x"},
	}
	for _, c := range cases {
		list, code := impl.ChoicesFor(mustReadFrame(t, c.frame), mustReadTune(t, c.note)[0])
		wantEqual(t, wholeText(t, code, list), c.want, "choices:", c.name)
	}
	great := likeHammers(96, 24, 24, 0, 20)
	list, code := impl.ChoicesFor(great, impl.Note{At: 50, Pitch: 36})
	wantEqual(t, fmt.Sprint(len(list), list[0], list[23], list[24], list[167], list[168], code), "169 {false 0 -1 0} {false 0 -1 23} {false -1 -1 0} {false 3 -1 23} {true 0 0 0} 0", "as many choices as there can be")
	for _, n := range invalidNotes() {
		list, code := impl.ChoicesFor(great, n)
		wantEqual(t, shown(t, code, list), "[invalid]", "choices for", n)
	}
	for _, f := range invalidFrames() {
		list, code := impl.ChoicesFor(f, impl.Note{At: 1, Pitch: 24})
		wantEqual(t, shown(t, code, list), "[invalid]", "choices of", rawFrame(f))
	}
}

func TestNoteOf(t *testing.T) {
	cases := []struct {
		at    int16
		pitch int8
		x     string
		want  string
	}{
		{5, 24, "0/0/0", "5; 24"},
		{5, 24, "0/0/23", "5; 24"},
		{5, 24, "-3/0/0", "2; 24"},
		{5, 24, "3/0/0", "8; 24"},
		{5, 24, "0/-1/0", "5; 12"},
		{5, 24, "0/1/0", "5; 36"},
		{5, 24, "2/-1/7", "7; 12"},
		{0, 0, "-3/-1/0", "-3; -12"},
		{2, 11, "-3/-1/0", "-1; -1"},
		{199, 47, "3/1/0", "202; 59"},
		{197, 36, "3/1/0", "200; 48"},
		{5, 24, "x", "[state]"},
		{0, 0, "x", "[state]"},
		{199, 47, "x", "[state]"},
		{200, 24, "x", "[invalid]"},
		{200, 24, "-1/0/0", "[invalid]"},
		{-1, 24, "1/0/0", "[invalid]"},
		{-1, 24, "x", "[invalid]"},
		{5, 48, "0/-1/0", "[invalid]"},
		{5, -1, "0/1/0", "[invalid]"},
		{5, -1, "x", "[invalid]"},
		{5, 24, "4/0/0", "[invalid]"},
		{5, 24, "x:1/0/0", "[invalid]"},
	}
	for _, c := range cases {
		n, code := impl.NoteOf(impl.Note{At: c.at, Pitch: c.pitch}, choices(c.x)[0])
		wantEqual(t, shown(t, code, n.At, n.Pitch), c.want, "note of", c.at, c.pitch, c.x)
	}
	for _, x := range invalidChoices() {
		n, code := impl.NoteOf(impl.Note{At: 5, Pitch: 24}, x)
		wantEqual(t, shown(t, code, n.At, n.Pitch), "[invalid]", "note by", x)
	}
	for _, bad := range invalidNotes() {
		for _, x := range choices("0/0/0 x -1/-1/0 1/1/23 4/0/0") {
			n, code := impl.NoteOf(bad, x)
			wantEqual(t, shown(t, code, n.At, n.Pitch), "[invalid]", "note of", bad, x)
		}
	}
}

func TestCostOf(t *testing.T) {
	far := slices.Repeat(choices("3/-1/23"), 120)
	cases := []struct {
		name string
		c    impl.Costs
		list []impl.Choice
		want string
	}{
		{"no choices", costs(10, 2, 1), nil, "0"},
		{"as it is", costs(10, 2, 1), choices("0/0/0"), "0"},
		{"as it is, by any hammer", costs(10, 2, 1), choices("0/0/23"), "0"},
		{"left away", costs(10, 2, 1), choices("x"), "10"},
		{"an octave higher", costs(10, 2, 1), choices("0/1/0"), "2"},
		{"an octave lower", costs(10, 2, 1), choices("0/-1/0"), "2"},
		{"later", costs(10, 2, 1), choices("1/0/0"), "1"},
		{"earlier", costs(10, 2, 1), choices("-1/0/0"), "1"},
		{"much later", costs(10, 2, 4), choices("3/0/0"), "12"},
		{"much earlier", costs(10, 2, 4), choices("-3/0/0"), "12"},
		{"earlier, and an octave lower", costs(10, 2, 4), choices("-2/-1/0"), "10"},
		{"later, and an octave higher", costs(10, 2, 4), choices("2/1/0"), "10"},
		{"the example", costs(10, 2, 1), choices("0/0/0 2/0/0 0/-1/1"), "4"},
		{"several ones", costs(100, 10, 1), choices("x 0/0/0 -3/1/2 x 0/-1/1 2/0/0"), "225"},
		{"costs of 0", costs(0, 0, 0), choices("x 3/1/0 -3/-1/0 0/0/0"), "0"},
		{"costs of 1000", costs(1000, 1000, 1000), choices("x 3/1/0 -3/-1/0 0/0/0"), "9000"},
		{"MaxNotes choices", costs(1000, 1000, 1000), far, "480000"},
		{"MaxNotes choices, left away", costs(1000, 0, 0), slices.Repeat(choices("x"), 120), "120000"},
		{"one more", costs(0, 0, 0), append(choices("x"), far...), "[limit]"},
		{"many more", costs(0, 0, 0), slices.Repeat(far, 10), "[limit]"},
		{"one more, and one that is none", costs(0, 0, 0), append(choices("4/0/0"), far...), "[invalid]"},
		{"one more, and one that is none at last", costs(0, 0, 0), append(slices.Clone(far), choices("x:0/0/1")...), "[invalid]"},
		{"one more, and no costs", costs(1001, 0, 0), append(choices("x"), far...), "[invalid]"},
		{"no costs", costs(0, -1, 0), choices("0/0/0"), "[invalid]"},
		{"no costs, and no choices", costs(0, 0, 1001), nil, "[invalid]"},
		{"one that is none", costs(10, 2, 1), choices("0/0/0 0/2/0"), "[invalid]"},
	}
	for _, c := range cases {
		cost, code := impl.CostOf(c.c, c.list)
		wantEqual(t, shown(t, code, cost), c.want, "cost:", c.name)
	}
}

// fitCase is an arrangement with its drum, the first choice that does not fit, how many notes are kept, and what is heard.
type fitCase struct{ name, frame, tune, list, drum, unfit, kept, heard string }

// noFit is a case that has an error.
func noFit(name, frame, tune, list, code, unfit string) fitCase {
	return fitCase{name, frame, tune, list, code, unfit, code, code}
}

func checkFit(t *testing.T, c fitCase) {
	t.Helper()
	f, u, list := mustReadFrame(t, c.frame), mustReadTune(t, c.tune), choices(c.list)
	d, code := impl.DrumFor(f, u, list)
	wantEqual(t, shown(t, code, d), c.drum, "drum:", c.name)
	index, code := impl.FirstUnfit(f, u, list)
	wantEqual(t, shown(t, code, index), c.unfit, "first unfit:", c.name)
	kept, code := impl.KeptNotes(f, u, list)
	wantEqual(t, shown(t, code, kept), c.kept, "kept:", c.name)
	heard, code := impl.HeardTune(f, u, list)
	wantEqual(t, wholeTune(t, code, heard), c.heard, "heard:", c.name)
	fits, code := impl.CheckChoices(f, u, list)
	want := map[bool]string{true: "true", false: "false"}[c.unfit == "[notfound]"]
	if c.unfit == "[invalid]" {
		want = "[invalid]"
	}
	wantEqual(t, shown(t, code, fits), want, "check:", c.name)
}

// wholeTune is the text of a tune, or a code in brackets.
func wholeTune(t *testing.T, code int64, heard impl.Tune) string {
	t.Helper()
	if code != impl.OK {
		return shown(t, code, heard)
	}
	return impl.TuneText(heard)
}

func TestArrangementsThatFit(t *testing.T) {
	none, two := "[notfound]", "0:c2 1:c2"
	for _, c := range []fitCase{
		{"the example", twoHammers, exampleTune, "0/0/0 2/0/0 0/-1/1", "0:1 2:2 3:1", none, "3", "0:c2 2:e2 3:c2"},
		{"the other example", twoHammers, exampleTune, "0/0/0 x x", "0:1", none, "1", "0:c2"},
		{"all left away", twoHammers, exampleTune, "x x x", "", none, "0", ""},
		{"the first one left away", twoHammers, exampleTune, "x 0/0/0 2/-1/1", "1:1 4:2", none, "2", "1:c2 4:e2"},
		{"an empty tune", twoHammers, "", "", "", none, "0", ""},
		{"later steps", twoHammers, exampleTune, "0/0/0 3/0/0 -2/-1/1", "0:3 4:1", none, "3", "0:c2 0:e2 4:c2"},
		{"notes that change places", "8 c2/1", two, "1/0/0 -1/0/0", "0:1 1:1", none, "2", "0:c2 1:c2"},
		{"notes that are heard as one", twoForOne, two, "0/0/0 -1/0/2", "0:5", none, "2", "0:c2"},
		{"notes an octave apart that are heard as one", twoForOne, "0:c2 0:c3", "0/0/2 0/-1/0", "0:5", none, "2", "0:c2"},
		{"just ready, around the end", "8 c2/3", "0:c2 6:c2", "0/0/0 -1/0/0", "0:1 5:1", none, "2", "0:c2 5:c2"},
		{"the step 0", "8 c2/3", "3:c2", "-3/0/0", "0:1", none, "1", "0:c2"},
		{"the last step", "8 c2/3", "4:c2", "3/0/0", "7:1", none, "1", "7:c2"},
		{"the last step from behind", "8 c2/3", "10:c2", "-3/0/0", "7:1", none, "1", "7:c2"},
		{"as far behind as can be", "8 c2/3", "199:c2", "x", "", none, "0", ""},
		{"to the least pitch", "8 c0/3", "0:c1", "0/-1/0", "0:1", none, "1", "0:c0"},
		{"to the greatest pitch", "8 b3/3", "0:b2", "0/1/0", "0:1", none, "1", "0:b3"},
		{"the last one of all tracks", "8" + strings.Repeat(" c2/8", 24), "0:c2", "0/0/23", "0:8388608", none, "1", "0:c2"},
		{"a hammer that is ready once in a turn", "8 c2/8", "5:c2", "0/0/0", "5:1", none, "1", "5:c2"},
		{"the second hammer first", "8 c2/8 c2/8", "5:c2 6:c2", "0/0/1 0/0/0", "5:2 6:1", none, "2", "5:c2 6:c2"},
	} {
		checkFit(t, c)
	}
}

func TestArrangementsThatDoNotFit(t *testing.T) {
	two := "0:c2 1:c2"
	for _, c := range []fitCase{
		noFit("not ready", twoHammers, exampleTune, "0/0/0 0/0/0 0/-1/1", "[state]", "1"),
		noFit("not ready one step later", twoHammers, exampleTune, "0/0/0 1/0/0 x", "[state]", "1"),
		noFit("not ready around the end", "8 c2/3", "0:c2 6:c2", "0/0/0 0/0/0", "[state]", "1"),
		noFit("not ready around the beginning", "8 c2/3", "0:c2 6:c2", "0/0/0 1/0/0", "[state]", "1"),
		noFit("not ready ahead of another one", "8 c2/3", "2:c2 5:c2", "2/0/0 -3/0/0", "[state]", "1"),
		noFit("not ready twice in a turn", "8 c2/8", "0:c2 4:c2", "0/0/0 0/0/0", "[state]", "1"),
		noFit("the same place", "8 c2/1", two, "0/0/0 -1/0/0", "[state]", "1"),
		noFit("the same place later", "8 c2/1", two, "1/0/0 0/0/0", "[state]", "1"),
		noFit("the same hammer an octave lower", twoHammers, "0:c2 0:c3", "0/0/0 0/-1/0", "[state]", "1"),
		noFit("the pitch of another hammer", twoHammers, exampleTune, "0/0/1 x x", "[state]", "0"),
		noFit("the pitch of no hammer", twoHammers, "0:d2", "0/0/0", "[state]", "0"),
		noFit("an octave that is missing", twoHammers, exampleTune, "0/0/0 2/0/0 0/0/1", "[state]", "2"),
		noFit("an octave too many", twoHammers, exampleTune, "0/1/0 x x", "[state]", "0"),
		noFit("the wrong octave", twoHammers, exampleTune, "0/0/0 2/0/0 0/1/1", "[state]", "2"),
		noFit("below the least pitch", "8 c0/3", "0:c0", "0/-1/0", "[state]", "0"),
		noFit("above the greatest pitch", "8 b3/3", "0:b3", "0/1/0", "[state]", "0"),
		noFit("no such track", twoHammers, exampleTune, "0/0/2 x x", "[state]", "0"),
		noFit("the last one of all tracks", twoHammers, exampleTune, "x x 0/-1/23", "[state]", "2"),
		noFit("ahead of the step 0", twoHammers, exampleTune, "-1/0/0 x x", "[state]", "0"),
		noFit("ahead of the step 0 by two", "8 c2/3", "1:c2", "-3/0/0", "[state]", "0"),
		noFit("behind the last step", "8 c2/3", "7:c2", "1/0/0", "[state]", "0"),
		noFit("behind the last step as it is", "8 c2/3", "8:c2", "0/0/0", "[state]", "0"),
		noFit("too far behind", "8 c2/3", "11:c2", "-3/0/0", "[state]", "0"),
		noFit("of several ones the first one", twoHammers, exampleTune, "0/0/0 0/0/1 0/0/0", "[state]", "1"),
		noFit("none ahead of one that is not ready", twoHammers, "0:c2 1:c2 2:c2", "0/0/0 x 0/0/0", "[state]", "2"),
		noFit("not ready ahead of none", twoHammers, "0:c2 1:c2 2:c2", "0/0/0 0/0/0 0/0/1", "[state]", "1"),
		noFit("one too few", twoHammers, exampleTune, "0/0/0 2/0/0", "[range]", "[range]"),
		noFit("one too many", twoHammers, exampleTune, "0/0/0 2/0/0 0/-1/1 x", "[range]", "[range]"),
		noFit("none", twoHammers, exampleTune, "", "[range]", "[range]"),
		noFit("one for an empty tune", twoHammers, "", "x", "[range]", "[range]"),
		noFit("one too few, and one that does not fit", twoHammers, exampleTune, "0/0/1 0/0/1", "[range]", "[range]"),
		noFit("one too many, and one that does not fit", twoHammers, exampleTune, "0/0/1 0/0/1 x x", "[range]", "[range]"),
		noFit("one that is none", twoHammers, exampleTune, "0/0/0 x 0/0/24", "[invalid]", "[invalid]"),
		noFit("one that is none behind one that does not fit", twoHammers, exampleTune, "0/0/1 x x:0/0/1", "[invalid]", "[invalid]"),
		noFit("one too few, and one that is none", twoHammers, exampleTune, "4/0/0 x", "[invalid]", "[invalid]"),
		noFit("one too many that is none", twoHammers, exampleTune, "x x x 0/-2/0", "[invalid]", "[invalid]"),
	} {
		checkFit(t, c)
	}
}

// TestArrangements has the greedy arrangement with its cost, the best one with its cost, how many looks it takes, the least costs, and how many notes can be kept.
func TestArrangements(t *testing.T) {
	cases := []struct {
		name, frame, tune string
		c                 impl.Costs
		greedy, best      string
		looks             int64
		each              string
		kept              int64
	}{
		{"the example", twoHammers, exampleTune, costs(10, 2, 1), "0/0/0 2/0/0 0/-1/1; 4", "0/0/0 2/0/0 0/-1/1; 4", 4, "[0 0 2]", 3},
		{"the other example", twoHammers, exampleTune, costs(1, 2, 3), "0/0/0 x x; 2", "0/0/0 x x; 2", 3, "[0 0 1]", 3},
		{"an empty tune", twoHammers, "", costs(10, 2, 1), "; 0", "; 0", 0, "[]", 0},
		{"one note", twoHammers, "0:c2", costs(10, 2, 1), "0/0/0; 0", "0/0/0; 0", 1, "[0]", 1},
		{"a note that no hammer can play", twoHammers, "0:d2", costs(10, 2, 1), "x; 10", "x; 10", 1, "[10]", 0},
		{"notes that no hammer can play", twoHammers, "0:d2 3:f2 9:c0", costs(1000, 0, 0), "x x x; 3000", "x x x; 3000", 3, "[1000 1000 1000]", 0},
		{"costs of 0", twoHammers, exampleTune, costs(0, 0, 0), "0/0/0 2/0/0 0/-1/1; 0", "0/0/0 2/0/0 0/-1/1; 0", 3, "[0 0 0]", 3},
		{"costs of 1000", twoHammers, exampleTune, costs(1000, 1000, 1000), "0/0/0 x 0/-1/1; 2000", "0/0/0 x 0/-1/1; 2000", 3, "[0 0 1000]", 3},
		{"three notes for one hammer", "8 c2/3", "0:c2 1:c2 2:c2", costs(10, 2, 1), "0/0/0 2/0/0 x; 12", "0/0/0 x 1/0/0; 11", 13, "[0 0 0]", 2},
		{"the first note goes out of the way", "9 c2/3", "2:c2 4:c2 6:c2", costs(9, 0, 1), "0/0/0 1/0/0 2/0/0; 3", "-1/0/0 0/0/0 1/0/0; 2", 8, "[0 0 0]", 3},
		{"the first note goes far out of the way", "12 c2/3", "3:c2 4:c2 5:c2", costs(9, 0, 1), "0/0/0 2/0/0 x; 11", "-2/0/0 0/0/0 2/0/0; 4", 22, "[0 0 0]", 3},
		{"the second note is left away", "12 c2/3", "3:c2 5:c2 6:c2", costs(9, 0, 3), "0/0/0 1/0/0 3/0/0; 12", "0/0/0 x 0/0/0; 9", 14, "[0 0 0]", 3},
		{"as ready as can be", "8 c2/4", "3:c2 5:c2", costs(9, 0, 1), "0/0/0 2/0/0; 2", "0/0/0 2/0/0; 2", 4, "[0 0]", 2},
		{"two hammers for four notes", twoForOne, "3:c2 4:c2 5:c2 6:c2", costs(10, 0, 1), "0/0/0 0/0/2 1/0/0 1/0/2; 2", "0/0/0 0/0/2 1/0/0 1/0/2; 2", 21, "[0 0 0 0]", 4},
		{"the second note is more than MaxLate away", "8 c2/3", "3:c2 10:c2", costs(10, 0, 1), "0/0/0 -3/0/0; 3", "0/0/0 -3/0/0; 3", 2, "[0 3]", 2},
		{"the last note goes back", "8 c2/3", "0:c2 7:c2", costs(10, 2, 1), "0/0/0 -2/0/0; 2", "0/0/0 -2/0/0; 2", 3, "[0 0]", 2},
		{"one step more", "8 c2/3", "8:c2", costs(10, 2, 1), "-1/0/0; 1", "-1/0/0; 1", 1, "[1]", 1},
		{"MaxLate steps more", "8 c2/3", "10:c2", costs(10, 2, 1), "-3/0/0; 3", "-3/0/0; 3", 1, "[3]", 1},
		{"too far behind", "8 c2/3", "11:c2", costs(10, 2, 1), "x; 10", "x; 10", 1, "[10]", 0},
		{"left away comes last", "8 c2/3", "10:c2", costs(3, 2, 1), "-3/0/0; 3", "-3/0/0; 3", 1, "[3]", 1},
		{"left away costs less", "8 c2/3", "10:c2", costs(2, 2, 1), "x; 2", "x; 2", 1, "[2]", 1},
		{"left away costs nothing", "8 c2/3", "3:c2 4:c2", costs(0, 2, 1), "0/0/0 x; 0", "0/0/0 x; 0", 2, "[0 0]", 2},
		{"steps cost nothing", "8 c2/3", "3:c2 4:c2", costs(5, 2, 0), "0/0/0 2/0/0; 0", "0/0/0 2/0/0; 0", 2, "[0 0]", 2},
		{"earlier ahead of later", "8 c2/1", "4:c2 4:c3", costs(10, 0, 1), "0/0/0 -1/-1/0; 1", "0/0/0 -1/-1/0; 1", 2, "[0 0]", 2},
		{"later by less ahead of earlier", "8 c2/2", "4:c2 5:c2", costs(10, 0, 0), "0/0/0 1/0/0; 0", "0/0/0 1/0/0; 0", 2, "[0 0]", 2},
		{"lower ahead of higher", "4 c1/1 c3/1", "1:c2", costs(10, 2, 1), "0/-1/0; 2", "0/-1/0; 2", 1, "[2]", 1},
		{"lower ahead of higher, whatever the tracks", "4 c3/1 c1/1", "1:c2", costs(10, 2, 1), "0/-1/1; 2", "0/-1/1; 2", 1, "[2]", 1},
		{"higher where lower is not ready", "4 c1/4 c3/4", "1:c2 2:c2", costs(10, 2, 1), "0/-1/0 0/1/1; 4", "0/-1/0 0/1/1; 4", 2, "[2 2]", 2},
		{"neither is ready", "4 c1/4 c3/4", "1:c2 2:c2 3:c2", costs(10, 2, 1), "0/-1/0 0/1/1 x; 14", "0/-1/0 0/1/1 x; 14", 41, "[2 2 2]", 2},
		{"a step and an octave cost the same", "8 c2/2 c3/2", "3:c2 4:c2", costs(9, 2, 2), "0/0/0 0/1/1; 2", "0/0/0 0/1/1; 2", 2, "[0 0]", 2},
		{"a step costs less", "8 c2/2 c3/2", "3:c2 4:c2", costs(9, 3, 2), "0/0/0 1/0/0; 2", "0/0/0 1/0/0; 2", 2, "[0 0]", 2},
		{"an octave costs nothing", "8 c1/2 c2/2", "3:c2", costs(9, 0, 2), "0/0/1; 0", "0/0/1; 0", 1, "[0]", 1},
		{"the hammer with the least track", "8 d2/3 c2/3 c2/3", "3:c2 4:c2 5:c2", costs(10, 2, 1), "0/0/1 0/0/2 1/0/1; 1", "0/0/1 0/0/2 1/0/1; 1", 5, "[0 0 0]", 3},
		{"the greedy one costs more", "9 c2/5", "1:c2 3:c2 5:c2", costs(4, 0, 1), "0/0/0 x x; 8", "0/0/0 x x; 8", 19, "[0 0 0]", 1},
	}
	for _, c := range cases {
		f, u := mustReadFrame(t, c.frame), mustReadTune(t, c.tune)
		greedy, code := impl.Greedy(f, u, c.c)
		cost, _ := impl.CostOf(c.c, greedy)
		wantEqual(t, wholeText(t, code, greedy, cost), c.greedy, "greedy:", c.name)
		checkLooks(t, c.name, arrArgs{f: f, t: u, c: c.c}, c.best, c.looks)
		each, code := impl.LeastEach(f, u, c.c)
		wantEqual(t, shown(t, code, each), c.each, "least:", c.name)
		kept, code := impl.MostKept(f, u, impl.MaxLooks)
		wantEqual(t, shown(t, code, kept), fmt.Sprint(c.kept), "most kept:", c.name)
	}
}

// checkLooks asks for the best arrangement with as many looks as it needs, with more, and with fewer.
func checkLooks(t *testing.T, name string, a arrArgs, want string, looks int64) {
	t.Helper()
	for _, budget := range []int64{looks, looks + 1, impl.MaxLooks} {
		if budget <= impl.MaxLooks {
			best, cost, code := impl.Arrange(a.f, a.t, a.c, budget)
			wantEqual(t, wholeText(t, code, best, cost), want, "arrange:", name, "with looks:", budget)
		}
	}
	for _, budget := range []int64{0, looks / 2, looks - 1} {
		if budget >= 0 && budget < looks {
			best, cost, code := impl.Arrange(a.f, a.t, a.c, budget)
			wantEqual(t, shown(t, code, best, cost), "[budget]", "arrange:", name, "with looks:", budget)
		}
	}
}

// TestMostLooks has a tune that needs MaxLooks looks, and one that needs one more.
func TestMostLooks(t *testing.T) {
	f := mustReadFrame(t, threeHammers)
	want := "x x 0/0/2 0/0/1 x 0/0/0 0/0/2 0/0/1 0/-1/2 0/-1/0; 19"
	checkLooks(t, "MaxLooks", arrArgs{f: f, t: mustReadTune(t, longTune), c: costs(5, 2, 1)}, want, 20000)
	more := mustReadTune(t, "0:c#0 "+longTune)
	for _, budget := range []int64{0, 19999, 20000} {
		best, cost, code := impl.Arrange(f, more, costs(5, 2, 1), budget)
		wantEqual(t, shown(t, code, best, cost), "[budget]", "one look more than", budget)
		kept, code := impl.MostKept(f, more, budget)
		wantEqual(t, shown(t, code, kept), "[budget]", "most kept, with many more looks than", budget)
	}
}

func TestArrangeErrors(t *testing.T) {
	f, u, c := mustReadFrame(t, twoHammers), mustReadTune(t, exampleTune), costs(10, 2, 1)
	cases := []struct {
		name   string
		f      impl.Frame
		t      impl.Tune
		c      impl.Costs
		budget int64
		want   string
	}{
		{"less than no look", f, u, c, -1, "[range]"},
		{"one more than MaxLooks", f, u, c, 20001, "[range]"},
		{"the least number", f, u, c, math.MinInt64, "[range]"},
		{"the greatest number", f, u, c, math.MaxInt64, "[range]"},
		{"a number of more bits", f, u, c, 1<<32 + 100, "[range]"},
		{"less than no look for an empty tune", f, nil, c, -1, "[range]"},
		{"one more than MaxLooks for an empty tune", f, nil, c, 20001, "[range]"},
		{"no look", f, u, c, 0, "[budget]"},
		{"no look for a note that no hammer can play", f, notes(0, 26), c, 0, "[budget]"},
		{"no look for an empty tune", f, nil, c, 0, "; 0"},
		{"MaxLooks for an empty tune", f, nil, c, 20000, "; 0"},
		{"found already, but a look too few", f, u, c, 3, "[budget]"},
		{"as many looks as are needed", f, u, c, 4, "0/0/0 2/0/0 0/-1/1; 4"},
		{"MaxLooks", f, u, c, 20000, "0/0/0 2/0/0 0/-1/1; 4"},
		{"no costs", f, u, costs(10, 1001, 1), 4, "[invalid]"},
		{"no costs, and less than no look", f, u, costs(-1, 2, 1), -1, "[invalid]"},
		{"no tune, and less than no look", f, notes(1, 24, 1, 24), c, -1, "[invalid]"},
		{"no frame, and one more than MaxLooks", frame(8), u, c, 20001, "[invalid]"},
		{"no frame, and an empty tune", frame(8), nil, c, 0, "[invalid]"},
	}
	for _, c := range cases {
		best, cost, code := impl.Arrange(c.f, c.t, c.c, c.budget)
		wantEqual(t, wholeText(t, code, best, cost), c.want, "arrange:", c.name)
		if c.want == "[invalid]" {
			greedy, code := impl.Greedy(c.f, c.t, c.c)
			wantEqual(t, shown(t, code, greedy), "[invalid]", "greedy:", c.name)
			each, code := impl.LeastEach(c.f, c.t, c.c)
			wantEqual(t, shown(t, code, each), "[invalid]", "least:", c.name)
			bound, code := impl.BoundFrom(c.f, c.t, c.c, -1)
			wantEqual(t, shown(t, code, bound), "[invalid]", "bound:", c.name)
		}
	}
}

func TestMostKept(t *testing.T) {
	f, u := mustReadFrame(t, "8 c2/3"), mustReadTune(t, "0:c2 1:c2 2:c2")
	cases := []struct {
		name   string
		f      impl.Frame
		t      impl.Tune
		budget int64
		want   string
	}{
		{"as many looks as are needed", f, u, 9, "2"},
		{"one look fewer", f, u, 8, "[budget]"},
		{"no look", f, u, 0, "[budget]"},
		{"MaxLooks", f, u, 20000, "2"},
		{"one more than MaxLooks", f, u, 20001, "[range]"},
		{"less than no look", f, u, -1, "[range]"},
		{"the least number", f, u, math.MinInt64, "[range]"},
		{"the greatest number", f, u, math.MaxInt64, "[range]"},
		{"an empty tune", f, nil, 0, "0"},
		{"an empty tune, and less than no look", f, nil, -1, "[range]"},
		{"all notes", frame(96, 24, 1), row(90, 0, 24, 1, 0), 90, "90"},
		{"all notes, and one look fewer", frame(96, 24, 1), row(90, 0, 24, 1, 0), 89, "[budget]"},
		{"no notes", frame(96, 24, 1), row(120, 80, 47, 1, 0), 120, "0"},
		{"no tune, and less than no look", f, notes(1, 24, 1, 24), -1, "[invalid]"},
		{"no frame, and one more than MaxLooks", frame(8, 24, 9), u, 20001, "[invalid]"},
	}
	for _, c := range cases {
		kept, code := impl.MostKept(c.f, c.t, c.budget)
		wantEqual(t, shown(t, code, kept), c.want, "most kept:", c.name)
	}
}

func TestBoundFrom(t *testing.T) {
	f, u, c := mustReadFrame(t, twoHammers), mustReadTune(t, "0:c2 1:d2 2:e3 8:c2 9:c3"), costs(100, 10, 1)
	each, code := impl.LeastEach(f, u, c)
	wantEqual(t, shown(t, code, each), "[0 100 10 1 12]", "the least costs")
	for from, want := range map[int64]string{
		0: "123", 1: "123", 2: "23", 3: "13", 4: "12", 5: "0", 6: "[range]", -1: "[range]", 7: "[range]", 120: "[range]",
		math.MinInt64: "[range]", math.MaxInt64: "[range]", 1 << 32: "[range]", -1 << 32: "[range]",
	} {
		bound, code := impl.BoundFrom(f, u, c, from)
		wantEqual(t, shown(t, code, bound), want, "bound from", from)
	}
	for from, want := range map[int64]string{0: "0", 1: "[range]", -1: "[range]"} {
		bound, code := impl.BoundFrom(f, nil, c, from)
		wantEqual(t, shown(t, code, bound), want, "bound of an empty tune from", from)
	}
	most := row(120, 80, 47, 1, 0)
	for from, want := range map[int64]string{0: "120000", 1: "119000", 119: "1000", 120: "0", 121: "[range]"} {
		bound, code := impl.BoundFrom(f, most, costs(1000, 1000, 1000), from)
		wantEqual(t, shown(t, code, bound), want, "bound of MaxNotes notes from", from)
	}
}

func TestChoicesText(t *testing.T) {
	for _, text := range []string{
		"", "x", "0/0/0", "-3/0/0", "3/0/0", "0/-1/0", "0/1/0", "0/0/23", "-3/-1/23", "3/1/10", "x x x", "0/0/0 x", "x 0/0/0", "0/0/0 2/0/0 0/-1/1", "x -1/1/9 1/-1/19 x 0/0/0",
	} {
		wantEqual(t, impl.ChoicesText(choices(text)), text, "text of", text)
		read, code := impl.ReadChoices(text)
		wantEqual(t, shown(t, code, read), text, "read", text)
	}
	for _, x := range invalidChoices() {
		for _, list := range [][]impl.Choice{{x}, {{}, x}, {x, {}}, {{Away: true}, x, {Late: 1}}} {
			wantEqual(t, impl.ChoicesText(list), "", "text of", rawChoices(list))
		}
	}
	for _, one := range []string{"x", "0/0/0", "-3/-1/23"} {
		most := strings.TrimSpace(strings.Repeat(one+" ", 120))
		wantEqual(t, impl.ChoicesText(slices.Repeat(choices(one), 120)), most, "text of MaxNotes choices")
		wantEqual(t, impl.ChoicesText(slices.Repeat(choices(one), 121)), "", "text of one more")
		read, code := impl.ReadChoices(most)
		wantEqual(t, shown(t, code, read), most, "read MaxNotes choices")
		for _, end := range []string{" x", " 0/0/0", " ", " y", " 0", "/", "x", strings.Repeat(" x", 1000)} {
			read, code = impl.ReadChoices(most + end)
			wantEqual(t, shown(t, code, read), "[syntax]", "read MaxNotes choices, and", end)
		}
	}
}

func TestNoChoicesTexts(t *testing.T) {
	for _, text := range []string{
		" ", "  ", "X", "xx", "x ", " x", "x  x", "x\n", "x\tx", "x,x", "y", "x/0/0", "0/0/x", "x0/0/0", "0/0/0x", "x:0/0/0",
		"0", "0/0", "0/0/", "/0/0", "0//0", "//", "/", "0/0/0/", "0/0/0/0", "/0/0/0", "0/0 /0", "0 /0/0", "0/ 0/0", "0:0:0", "0 0 0", "0-0-0",
		"0/0/0 ", " 0/0/0", "0/0/0  0/0/0", "0/0/0\n", "\n0/0/0", "0/0/0\r", "0/0/0;", "0/0/0 x ", "0/0/0x x", "0/0/00/0/0",
		"00/0/0", "0/00/0", "0/0/00", "01/0/0", "0/01/0", "0/0/01", "0/0/023", "-03/0/0", "-0/0/0", "0/-0/0", "0/0/-0", "+0/0/0", "0/+0/0", "0/0/+0", "+1/0/0", "0/+1/0", "0/0/+1", "--1/0/0", "- 1/0/0", "-/0/0",
		"4/0/0", "-4/0/0", "0/2/0", "0/-2/0", "0/0/24", "0/0/-1", "10/0/0", "0/10/0", "0/0/100", "127/0/0", "128/0/0", "-128/0/0", "-129/0/0", "256/0/0", "0/256/0", "0/0/256", "0/0/279",
		"4294967296/0/0", "0/0/9223372036854775807", "0/0/9223372036854775808", "-9223372036854775808/0/0", "0/99999999999999999999/0",
		"0x1/0/0", "1_0/0/0", "0/0/1_0", "1.0/0/0", "1e0/0/0", "0/0/a", "٣/0/0", "0/0/0\x00", "\x000/0/0", "\xff",
		"0/0/0 4/0/0", "4/0/0 0/0/0", "0/0/0 0/0/24 x", "x x y", "x x 0/0",
	} {
		read, code := impl.ReadChoices(text)
		wantEqual(t, shown(t, code, read), "[syntax]", "read", text)
	}
}
