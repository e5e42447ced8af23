package tests

import (
	"fmt"
	"math"
	"slices"
	"strings"
	"testing"

	"loop.example/g01311/impl"
)

// This file has chapter 6's results written out: the document's example, its edges, and its errors.

const (
	twoHammers = "8 c2/3 e2/2"
	// twoForOne has two hammers for one bell.
	twoForOne = "8 c2/3 e2/2 c2/3"
)

// exampleWear is the fresh wear of the document's example.
func exampleWear() impl.Wear { return worn("0/0:0 4/0:0 [0 0]") }

func exampleLives() impl.Lives { return impl.Lives{Pin: 10, Hammer: 7} }

func TestWearLimits(t *testing.T) {
	wantEqual(t, fmt.Sprint(impl.MaxTurns, impl.MaxLife, impl.MaxActs), "1000000 1000000 60", "limits")
	wantEqual(t, fmt.Sprint(impl.AcTurn, impl.AcHammer, impl.AcPin, impl.AcMove), "0 1 2 3", "kinds")
}

func TestWearExample(t *testing.T) {
	f, v := mustReadFrame(t, twoHammers), exampleLives()
	w, code := impl.FreshWear(f, pinned(0, 0, 4, 0))
	wantEqual(t, shown(t, code, w), "0/0:0 4/0:0 [0 0]", "fresh")
	more, code := impl.TurnWear(f, w, 1)
	wantEqual(t, shown(t, code, more), "0/0:1 4/0:1 [2 0]", "2 strokes in a turn")
	left, code := impl.TurnsLeft(f, w, v)
	wantEqual(t, shown(t, code, left), "3", "left")
	more, code = impl.TurnWear(f, w, 4)
	wantEqual(t, shown(t, code, more), "0/0:4 4/0:4 [8 0]", "8 strokes behind 4 turns")
	turn, step, track, code := impl.FirstWorn(f, w, v)
	wantEqual(t, shown(t, code, turn, step, track), "4; -1; 0", "first worn")
	pins, hammers, code := impl.PartsFor(f, w, v, 10)
	wantEqual(t, shown(t, code, pins, hammers), "0; 3", "parts for 10 turns")
	pins, hammers, code = impl.PartsFor(f, w, v, 11)
	wantEqual(t, shown(t, code, pins, hammers), "2; 3", "parts for 11 turns")
}

func TestValidLives(t *testing.T) {
	for _, v := range []impl.Lives{{Pin: 1, Hammer: 1}, {Pin: 1, Hammer: 1000000}, {Pin: 1000000, Hammer: 1}, {Pin: 1000000, Hammer: 1000000}, {Pin: 10, Hammer: 7}} {
		wantEqual(t, impl.ValidLives(v), true, "lives", v)
	}
	for _, n := range []int64{0, -1, 1000001, math.MinInt64, math.MaxInt64, 1<<32 + 1} {
		for _, v := range []impl.Lives{{Pin: n, Hammer: 1}, {Pin: 1, Hammer: n}, {Pin: n, Hammer: n}} {
			wantEqual(t, impl.ValidLives(v), false, "lives", v)
		}
	}
}

func TestFreshWear(t *testing.T) {
	cases := []struct {
		name, frame string
		d           impl.Drum
		want        string
	}{
		{"no pins", twoForOne, impl.Drum{}, "[0 0 0]"},
		{"one pin", twoForOne, pinned(3, 1), "3/1:0 [0 0 0]"},
		{"by the step, then by the track", twoForOne, pinned(7, 0, 0, 2, 3, 1, 0, 0, 3, 0), "0/0:0 0/2:0 3/0:0 3/1:0 7/0:0 [0 0 0]"},
		{"clashes", twoForOne, pinned(0, 0, 1, 0, 2, 0), "0/0:0 1/0:0 2/0:0 [0 0 0]"},
		{"the last step and the last track", twoForOne, pinned(7, 2), "7/2:0 [0 0 0]"},
		{"all pins of the least frame", "2 c2/1", pinned(0, 0, 1, 0), "0/0:0 1/0:0 [0]"},
		{"the last step of the greatest frame", "96 c2/1", pinned(95, 0), "95/0:0 [0]"},
		{"one track more", twoForOne, pinned(0, 3), "[invalid]"},
		{"one step more", twoForOne, pinned(8, 0), "[invalid]"},
	}
	for _, c := range cases {
		w, code := impl.FreshWear(mustReadFrame(t, c.frame), c.d)
		wantEqual(t, shown(t, code, w), c.want, "fresh:", c.name)
	}
	for _, f := range invalidFrames() {
		w, code := impl.FreshWear(f, impl.Drum{})
		wantEqual(t, shown(t, code, w), "[invalid]", "fresh:", rawFrame(f))
	}
	f := likeHammers(96, 24, 0, 2, 20)
	w, code := impl.FreshWear(f, fullDrum(f))
	wantEqual(t, fmt.Sprint(len(w.Pins), w.Pins[0], w.Pins[24], w.Pins[2303], len(w.Strokes), code), "2304 {0 0 0} {1 0 0} {95 23 0} 24 0", "all pins of the greatest frame")
}

func TestValidWear(t *testing.T) {
	f := mustReadFrame(t, twoForOne)
	for _, text := range []string{
		"[0 0 0]", "[1 2 3]", "0/0:0 [0 0 0]", "7/2:0 [0 0 0]", "0/0:1 0/2:1 1/1:0 7/0:3 [1 2 3]", "3/2:5 4/0:5 [0 0 0]", "3/2:9 4/0:5 [0 0 0]",
		"0/0:1 1/0:1 2/0:1 [9 0 0]", "0/0:1000000 [0 0 0]", "7/2:1000000 [1000000 1000000 1000000]", "0/0:999999 [999999 0 0]",
	} {
		wantEqual(t, impl.ValidWear(f, worn(text)), true, "wear", text)
	}
	for _, text := range []string{
		"[]", "[0]", "[0 0]", "[0 0 0 0]", "0/0:0 []", "0/0:0 [0 0]", "0/0:0 [0 0 0 0]",
		"0/0:-1 [0 0 0]", "0/0:1000001 [0 0 0]", "0/0:0 7/2:1000001 [0 0 0]", "0/0:-9223372036854775808 [0 0 0]", "0/0:9223372036854775807 [0 0 0]", "0/0:4294967296 [0 0 0]",
		"[-1 0 0]", "[0 0 -1]", "[1000001 0 0]", "[0 1000001 0]", "[0 0 1000001]", "[0 -9223372036854775808 0]", "[0 0 9223372036854775807]",
		"8/0:0 [0 0 0]", "-1/0:0 [0 0 0]", "0/3:0 [0 0 0]", "0/-1:0 [0 0 0]", "127/0:0 [0 0 0]", "-128/0:0 [0 0 0]", "0/127:0 [0 0 0]", "0/-128:0 [0 0 0]",
		"0/0:0 8/0:0 [0 0 0]", "0/0:0 0/3:0 [0 0 0]", "-1/0:0 0/0:0 [0 0 0]", "0/-1:0 0/0:0 [0 0 0]", "0/3:0 1/0:0 [0 0 0]",
		"3/1:0 3/1:0 [0 0 0]", "3/1:0 3/1:1 [0 0 0]", "3/1:1 3/1:0 [0 0 0]", "3/1:0 3/0:0 [0 0 0]", "4/0:0 3/0:0 [0 0 0]", "4/0:0 3/1:0 [0 0 0]", "4/0:0 3/1:5 [0 0 0]",
		"0/0:0 1/0:0 2/0:0 2/0:0 [0 0 0]", "0/0:0 1/0:0 2/0:0 1/2:0 [0 0 0]", "1/0:0 0/0:0 2/0:0 [0 0 0]",
	} {
		wantEqual(t, impl.ValidWear(f, worn(text)), false, "wear", text)
	}
	for _, bad := range invalidFrames() {
		w := impl.Wear{Strokes: make([]int64, len(bad.Hammers))}
		wantEqual(t, impl.ValidWear(bad, w), false, "wear for", rawFrame(bad))
	}
	great := likeHammers(96, 24, 0, 2, 20)
	full, _ := impl.FreshWear(great, fullDrum(great))
	wantEqual(t, impl.ValidWear(great, full), true, "all pins of the greatest frame")
	wantEqual(t, impl.ValidWear(frame(95, 0, 1), worn("95/0:0 [0]")), false, "the last step of another frame")
	wantEqual(t, impl.ValidWear(frame(96, 0, 1), worn("95/0:0 [0]")), true, "the last step of a frame")
}

func TestSameWear(t *testing.T) {
	same := []string{"[]", "[0]", "0/0:0 []", "0/0:0 [0]", "3/1:7 0/0:-1 [5 -9]", "-128/127:9223372036854775807 [1]"}
	for i, one := range same {
		for j, other := range same {
			wantEqual(t, impl.SameWear(worn(one), worn(other)), i == j, "same", one, other)
		}
	}
	w := "0/0:5 3/1:7 [1 2]"
	for _, other := range []string{"0/0:5 3/1:7 [1 3]", "0/0:5 3/1:7 [2 1]", "0/0:5 3/1:7 [1 2 0]", "0/0:5 3/1:7 [1]", "0/0:5 3/1:8 [1 2]", "0/0:4 3/1:7 [1 2]", "0/0:5 3/0:7 [1 2]", "0/0:5 2/1:7 [1 2]", "0/0:5 [1 2]", "3/1:7 [1 2]", "3/1:7 0/0:5 [1 2]", "0/0:5 3/1:7 4/0:0 [1 2]", "[1 2]", "0/0:5 3/1:7 []"} {
		wantEqual(t, impl.SameWear(worn(w), worn(other)), false, "same", w, other)
		wantEqual(t, impl.SameWear(worn(other), worn(w)), false, "same", other, w)
	}
	empty := impl.Wear{Pins: []impl.WornPin{}, Strokes: make([]int64, 0, 3)}
	wantEqual(t, impl.SameWear(impl.Wear{}, empty) && impl.SameWear(empty, impl.Wear{}), true, "nil and empty")
}

func TestDrumOfWear(t *testing.T) {
	f := mustReadFrame(t, twoForOne)
	for text, want := range map[string]string{
		"[0 0 0]":                           "",
		"[9 9 9]":                           "",
		"0/0:0 [0 0 0]":                     "0:1",
		"7/2:1000000 [0 0 0]":               "7:4",
		"0/0:5 0/2:0 3/1:7 7/0:1 [9 0 1]":   "0:5 3:2 7:1",
		"0/0:0 1/0:0 2/0:0 [0 0 0]":         "0:1 1:1 2:1",
		"4/0:1 4/1:2 4/2:3 [1000000 0 0]":   "4:7",
		"[0 0]":                             "[invalid]",
		"0/0:0 0/0:0 [0 0 0]":               "[invalid]",
		"8/0:0 [0 0 0]":                     "[invalid]",
		"0/3:0 [0 0 0]":                     "[invalid]",
		"0/0:1000001 [0 0 0]":               "[invalid]",
		"1/0:0 0/0:0 [0 0 0]":               "[invalid]",
		"0/0:0 [0 0 1000001]":               "[invalid]",
		"0/0:0 [0 0 -9223372036854775808]":  "[invalid]",
		"0/0:-9223372036854775808 [0 0 0]":  "[invalid]",
		"0/0:9223372036854775807 [0 0 0 0]": "[invalid]",
	} {
		d, code := impl.DrumOfWear(f, worn(text))
		wantEqual(t, shown(t, code, d), want, "drum of", text)
	}
	d, code := impl.DrumOfWear(frame(97, 24, 1), worn("[0]"))
	wantEqual(t, shown(t, code, d), "[invalid]", "no frame")
}

func TestTurnWear(t *testing.T) {
	f := mustReadFrame(t, twoForOne)
	cases := []struct {
		name, wear string
		turns      int64
		want       string
	}{
		{"no turn", "0/0:5 3/1:7 4/0:6 [10 20 30]", 0, "0/0:5 3/1:7 4/0:6 [10 20 30]"},
		{"one turn", "0/0:5 3/1:7 4/0:6 [10 20 30]", 1, "0/0:6 3/1:8 4/0:7 [12 21 30]"},
		{"some turns", "0/0:5 3/1:7 4/0:6 [10 20 30]", 3, "0/0:8 3/1:10 4/0:9 [16 23 30]"},
		{"two hammers of a bell", "0/0:0 0/2:0 1/2:0 [0 0 0]", 5, "0/0:5 0/2:5 1/2:5 [5 0 10]"},
		{"clashes", "0/0:0 1/0:0 2/0:0 [0 0 0]", 2, "0/0:2 1/0:2 2/0:2 [6 0 0]"},
		{"all pins of a track", "0/1:0 1/1:0 2/1:0 3/1:0 4/1:0 5/1:0 6/1:0 7/1:0 [0 0 0]", 10, "0/1:10 1/1:10 2/1:10 3/1:10 4/1:10 5/1:10 6/1:10 7/1:10 [0 80 0]"},
		{"no pins", "[1 2 3]", 1000000, "[1 2 3]"},
		{"no pins, and most strokes", "[1000000 1000000 1000000]", 1000000, "[1000000 1000000 1000000]"},
		{"MaxTurns", "0/0:0 [0 0 0]", 1000000, "0/0:1000000 [1000000 0 0]"},
		{"one more", "0/0:0 [0 0 0]", 1000001, "[range]"},
		{"one more, without pins", "[0 0 0]", 1000001, "[range]"},
		{"one more, and too many strokes", "0/0:0 [1000000 0 0]", 1000001, "[range]"},
		{"less than 0", "0/0:5 [5 0 0]", -1, "[range]"},
		{"the least number", "0/0:5 [5 0 0]", math.MinInt64, "[range]"},
		{"the greatest number", "0/0:5 [5 0 0]", math.MaxInt64, "[range]"},
		{"a number of more bits", "0/0:5 [5 0 0]", 1<<32 + 1, "[range]"},
		{"a pin that has just MaxTurns", "0/0:999990 [0 0 0]", 10, "0/0:1000000 [10 0 0]"},
		{"a pin that would have one more", "0/0:999990 [0 0 0]", 11, "[limit]"},
		{"the last pin would have one more", "0/0:0 7/2:1000000 [0 0 0]", 1, "[limit]"},
		{"no turn of most turns", "0/0:1000000 [1000000 0 0]", 0, "0/0:1000000 [1000000 0 0]"},
		{"a hammer that has just MaxTurns", "0/0:0 4/0:0 [999990 0 0]", 5, "0/0:5 4/0:5 [1000000 0 0]"},
		{"a hammer that would have more", "0/0:0 4/0:0 [999990 0 0]", 6, "[limit]"},
		{"a hammer that would have one more", "0/0:0 4/0:0 [999991 0 0]", 5, "[limit]"},
		{"the last hammer would have one more", "7/2:0 [0 0 1000000]", 1, "[limit]"},
		{"a hammer without pins has most strokes", "7/2:0 [1000000 1000000 0]", 1, "7/2:1 [1000000 1000000 1]"},
		{"half of MaxTurns for two pins", "0/0:0 4/0:0 [0 0 0]", 500000, "0/0:500000 4/0:500000 [1000000 0 0]"},
		{"one turn more for two pins", "0/0:0 4/0:0 [0 0 0]", 500001, "[limit]"},
		{"MaxTurns for two pins", "0/0:0 4/0:0 [0 0 0]", 1000000, "[limit]"},
		{"no wear", "0/0:0 [0 0]", 1000001, "[invalid]"},
		{"no wear, and no turn", "0/0:1000001 [0 0 0]", 0, "[invalid]"},
	}
	for _, c := range cases {
		w, code := impl.TurnWear(f, worn(c.wear), c.turns)
		wantEqual(t, shown(t, code, w), c.want, "turn:", c.name)
		w, code = impl.DoWearAct(f, worn(c.wear), impl.Act{Kind: impl.AcTurn, A: c.turns, B: -1, C: math.MaxInt64, D: 9})
		wantEqual(t, shown(t, code, w), c.want, "act of turning:", c.name)
	}
	w, code := impl.TurnWear(frame(8), worn("[]"), 0)
	wantEqual(t, shown(t, code, w), "[invalid]", "turn: no frame")
	great := likeHammers(96, 24, 0, 2, 20)
	full, _ := impl.FreshWear(great, fullDrum(great))
	w, code = impl.TurnWear(great, full, 10416)
	wantEqual(t, fmt.Sprint(code, w.Pins[0], w.Pins[2303], w.Strokes[0], w.Strokes[23]), "0 {0 0 10416} {95 23 10416} 999936 999936", "all pins of the greatest frame")
	for _, turns := range []int64{10417, 1000000} {
		w, code = impl.TurnWear(great, full, turns)
		wantEqual(t, shown(t, code, w), "[limit]", "all pins of the greatest frame turn too often")
	}
}

func TestTurnsLeft(t *testing.T) {
	f := mustReadFrame(t, twoForOne)
	// What is left, what is worn out first, and what is worn out.
	cases := []struct {
		name, wear       string
		v                impl.Lives
		left, first, out string
	}{
		{"the example", "0/0:0 4/0:0 [0 0 0]", impl.Lives{Pin: 10, Hammer: 7}, "3", "4; -1; 0", "[]; []"},
		{"no pins", "[0 0 0]", impl.Lives{Pin: 1, Hammer: 1}, "1000000", "[notfound]", "[]; []"},
		{"no pins, and hammers that have made their lives", "[7 7 7]", impl.Lives{Pin: 10, Hammer: 7}, "1000000", "[notfound]", "[]; []"},
		{"no pins, and a hammer that is worn out", "[0 8 0]", impl.Lives{Pin: 10, Hammer: 7}, "[state]", "[state]", "[]; [1]"},
		{"a pin that has made its life", "0/0:10 [0 0 0]", impl.Lives{Pin: 10, Hammer: 7}, "0", "1; 0; 0", "[]; []"},
		{"a pin that has made one more", "0/0:11 [0 0 0]", impl.Lives{Pin: 10, Hammer: 7}, "[state]", "[state]", "[{0 0 11}]; []"},
		{"a pin that has one turn left", "0/0:9 [0 0 0]", impl.Lives{Pin: 10, Hammer: 7}, "1", "2; 0; 0", "[]; []"},
		{"a hammer that has made its life", "0/0:0 [7 0 0]", impl.Lives{Pin: 10, Hammer: 7}, "0", "1; -1; 0", "[]; []"},
		{"a hammer that has made one more", "0/0:0 [8 0 0]", impl.Lives{Pin: 10, Hammer: 7}, "[state]", "[state]", "[]; [0]"},
		{"a hammer without pins that has made its life", "0/0:0 [0 0 7]", impl.Lives{Pin: 10, Hammer: 8}, "8", "9; -1; 0", "[]; []"},
		{"pins and a hammer in the same turn", "1/2:5 3/0:5 [0 0 2]", impl.Lives{Pin: 10, Hammer: 7}, "5", "6; 1; 2", "[]; []"},
		{"the hammer a turn earlier", "1/2:5 3/0:5 [0 0 3]", impl.Lives{Pin: 10, Hammer: 7}, "4", "5; -1; 2", "[]; []"},
		{"the hammer a turn later", "1/2:5 3/0:5 [0 0 1]", impl.Lives{Pin: 10, Hammer: 7}, "5", "6; 1; 2", "[]; []"},
		{"the last pin and the first hammer in the same turn", "1/0:0 7/2:5 [2 0 0]", impl.Lives{Pin: 10, Hammer: 7}, "5", "6; 7; 2", "[]; []"},
		{"two hammers in the same turn", "1/2:0 3/0:0 [3 0 3]", impl.Lives{Pin: 10, Hammer: 7}, "4", "5; -1; 0", "[]; []"},
		{"the last hammer earlier", "1/2:0 3/0:0 [3 0 4]", impl.Lives{Pin: 10, Hammer: 7}, "3", "4; -1; 2", "[]; []"},
		{"the second pin earlier", "1/2:5 3/0:6 [0 0 0]", impl.Lives{Pin: 10, Hammer: 70}, "4", "5; 3; 0", "[]; []"},
		{"pins of a step in the same turn", "3/0:4 3/1:4 [0 0 0]", impl.Lives{Pin: 10, Hammer: 70}, "6", "7; 3; 0", "[]; []"},
		{"pins of a track in the same turn", "2/1:1 3/1:4 6/1:4 [0 0 0]", impl.Lives{Pin: 10, Hammer: 70}, "6", "7; 3; 1", "[]; []"},
		{"a lesser track behind a lesser step", "2/2:4 3/0:4 [0 0 0]", impl.Lives{Pin: 10, Hammer: 70}, "6", "7; 2; 2", "[]; []"},
		{"rounded down", "0/0:0 1/0:0 2/0:0 [1 0 0]", impl.Lives{Pin: 10, Hammer: 9}, "2", "3; -1; 0", "[]; []"},
		{"not rounded", "0/0:0 1/0:0 2/0:0 [1 0 0]", impl.Lives{Pin: 10, Hammer: 10}, "3", "4; -1; 0", "[]; []"},
		{"a hammer that makes more in a turn than its life", "0/0:0 1/0:0 [0 0 0]", impl.Lives{Pin: 10, Hammer: 1}, "0", "1; -1; 0", "[]; []"},
		{"two hammers of a bell", "0/0:0 1/0:0 4/2:0 [0 0 0]", impl.Lives{Pin: 10, Hammer: 4}, "2", "3; -1; 0", "[]; []"},
		{"MaxLife", "0/0:0 [0 0 0]", impl.Lives{Pin: 1000000, Hammer: 1000000}, "1000000", "[notfound]", "[]; []"},
		{"MaxLife, and a turn made", "0/0:1 [0 0 0]", impl.Lives{Pin: 1000000, Hammer: 1000000}, "999999", "1000000; 0; 0", "[]; []"},
		{"MaxLife, and a stroke made", "0/0:0 [1 0 0]", impl.Lives{Pin: 1000000, Hammer: 1000000}, "999999", "1000000; -1; 0", "[]; []"},
		{"one less than MaxLife", "0/0:0 [0 0 0]", impl.Lives{Pin: 999999, Hammer: 999999}, "999999", "1000000; 0; 0", "[]; []"},
		{"MaxLife, and two pins", "0/0:0 1/0:0 [0 0 0]", impl.Lives{Pin: 1000000, Hammer: 1000000}, "500000", "500001; -1; 0", "[]; []"},
		{"MaxLife, and all made", "0/0:1000000 [1000000 0 0]", impl.Lives{Pin: 1000000, Hammer: 1000000}, "0", "1; 0; 0", "[]; []"},
		{"one less than MaxLife, and all made", "0/0:1000000 [1000000 0 1000000]", impl.Lives{Pin: 999999, Hammer: 999999}, "[state]", "[state]", "[{0 0 1000000}]; [0 2]"},
		{"several ones are worn out", "0/0:11 2/1:3 3/0:12 3/2:10 4/0:11 [8 7 9]", impl.Lives{Pin: 10, Hammer: 7}, "[state]", "[state]", "[{0 0 11} {3 0 12} {4 0 11}]; [0 2]"},
		{"no life for pins", "0/0:0 [0 0 0]", impl.Lives{Pin: 0, Hammer: 7}, "[invalid]", "[invalid]", "[invalid]"},
		{"no life for hammers", "0/0:0 [8 0 0]", impl.Lives{Pin: 10, Hammer: 0}, "[invalid]", "[invalid]", "[invalid]"},
		{"more than MaxLife for pins", "0/0:0 [0 0 0]", impl.Lives{Pin: 1000001, Hammer: 7}, "[invalid]", "[invalid]", "[invalid]"},
		{"more than MaxLife for hammers", "0/0:0 [0 0 0]", impl.Lives{Pin: 10, Hammer: 1000001}, "[invalid]", "[invalid]", "[invalid]"},
		{"no wear", "0/0:0 [0 0]", impl.Lives{Pin: 10, Hammer: 7}, "[invalid]", "[invalid]", "[invalid]"},
	}
	for _, c := range cases {
		left, code := impl.TurnsLeft(f, worn(c.wear), c.v)
		wantEqual(t, shown(t, code, left), c.left, "left:", c.name)
		turn, step, track, code := impl.FirstWorn(f, worn(c.wear), c.v)
		wantEqual(t, shown(t, code, turn, step, track), c.first, "first:", c.name)
		pins, tracks, code := impl.WornOut(f, worn(c.wear), c.v)
		wantEqual(t, shown(t, code, pins, tracks), c.out, "out:", c.name)
	}
	_, one := impl.TurnsLeft(frame(8), worn("[]"), exampleLives())
	_, _, _, two := impl.FirstWorn(frame(8), worn("[]"), exampleLives())
	_, _, three := impl.WornOut(frame(8), worn("[]"), exampleLives())
	wantEqual(t, fmt.Sprint(one, two, three), "1 1 1", "no frame")
}

func TestNewHammer(t *testing.T) {
	f := mustReadFrame(t, twoForOne)
	cases := []struct {
		name, wear string
		track      int64
		want       string
	}{
		{"the first one", "0/0:5 [1 2 3]", 0, "0/0:5 [0 2 3]"},
		{"one without pins", "0/0:5 [1 2 3]", 1, "0/0:5 [1 0 3]"},
		{"the last one", "0/0:5 [1 2 3]", 2, "0/0:5 [1 2 0]"},
		{"one that is new", "0/0:5 [1 0 3]", 1, "0/0:5 [1 0 3]"},
		{"without pins", "[1000000 2 3]", 0, "[0 2 3]"},
		{"one more", "0/0:5 [1 2 3]", 3, "[range]"},
		{"less than 0", "0/0:5 [1 2 3]", -1, "[range]"},
		{"the least number", "0/0:5 [1 2 3]", math.MinInt64, "[range]"},
		{"the greatest number", "0/0:5 [1 2 3]", math.MaxInt64, "[range]"},
		{"a number of more bits", "0/0:5 [1 2 3]", 1 << 32, "[range]"},
		{"no wear", "0/0:5 [1 2]", 3, "[invalid]"},
	}
	for _, c := range cases {
		w, code := impl.NewHammer(f, worn(c.wear), c.track)
		wantEqual(t, shown(t, code, w), c.want, "hammer:", c.name)
		w, code = impl.DoWearAct(f, worn(c.wear), impl.Act{Kind: impl.AcHammer, A: c.track, B: -1, C: 99, D: math.MinInt64})
		wantEqual(t, shown(t, code, w), c.want, "act of a hammer:", c.name)
	}
	w, code := impl.NewHammer(frame(8), worn("[]"), 0)
	wantEqual(t, shown(t, code, w), "[invalid]", "hammer: no frame")
}

func TestNewPin(t *testing.T) {
	f := mustReadFrame(t, twoForOne)
	cases := []struct {
		name, wear  string
		step, track int64
		want        string
	}{
		{"where there is one", "0/0:5 3/1:7 [1 2 3]", 3, 1, "0/0:5 3/1:0 [1 2 3]"},
		{"where there is a new one", "0/0:0 3/1:7 [1 2 3]", 0, 0, "0/0:0 3/1:7 [1 2 3]"},
		{"where there is the only one", "3/1:7 [1 2 3]", 3, 1, "3/1:0 [1 2 3]"},
		{"where there is none", "0/0:5 3/1:7 [1 2 3]", 2, 0, "0/0:5 2/0:0 3/1:7 [1 2 3]"},
		{"where there is none of its track", "0/0:5 3/1:7 [1 2 3]", 3, 0, "0/0:5 3/0:0 3/1:7 [1 2 3]"},
		{"where there is none of its track, behind another one", "0/0:5 3/1:7 [1 2 3]", 3, 2, "0/0:5 3/1:7 3/2:0 [1 2 3]"},
		{"where there is none, ahead of all", "1/0:5 3/1:7 [1 2 3]", 0, 2, "0/2:0 1/0:5 3/1:7 [1 2 3]"},
		{"where there is none, behind all", "0/0:5 3/1:7 [1 2 3]", 7, 2, "0/0:5 3/1:7 7/2:0 [1 2 3]"},
		{"without pins", "[1 2 3]", 4, 1, "4/1:0 [1 2 3]"},
		{"a clash", "0/0:5 [1 2 3]", 1, 0, "0/0:5 1/0:0 [1 2 3]"},
		{"one step more", "0/0:5 [1 2 3]", 8, 0, "[range]"},
		{"one track more", "0/0:5 [1 2 3]", 0, 3, "[range]"},
		{"a step below 0", "0/0:5 [1 2 3]", -1, 0, "[range]"},
		{"a track below 0", "0/0:5 [1 2 3]", 0, -1, "[range]"},
		{"the least step", "0/0:5 [1 2 3]", math.MinInt64, 0, "[range]"},
		{"the greatest step", "0/0:5 [1 2 3]", math.MaxInt64, 0, "[range]"},
		{"the least track", "0/0:5 [1 2 3]", 0, math.MinInt64, "[range]"},
		{"the greatest track", "0/0:5 [1 2 3]", 0, math.MaxInt64, "[range]"},
		{"a step of more bits", "0/0:5 [1 2 3]", 256, 0, "[range]"},
		{"a track of more bits", "0/0:5 [1 2 3]", 0, 1 << 32, "[range]"},
		{"no wear", "0/0:5 [1 2]", 8, 0, "[invalid]"},
	}
	for _, c := range cases {
		w, code := impl.NewPin(f, worn(c.wear), c.step, c.track)
		wantEqual(t, shown(t, code, w), c.want, "pin:", c.name)
		w, code = impl.DoWearAct(f, worn(c.wear), impl.Act{Kind: impl.AcPin, A: c.step, B: c.track, C: -1, D: 99})
		wantEqual(t, shown(t, code, w), c.want, "act of a pin:", c.name)
	}
	w, code := impl.NewPin(frame(8), worn("[]"), 0, 0)
	wantEqual(t, shown(t, code, w), "[invalid]", "pin: no frame")
}

func TestMovePin(t *testing.T) {
	f := mustReadFrame(t, twoForOne)
	wear := "0/0:5 3/1:7 4/0:9 [1 2 3]"
	cases := []struct {
		name                         string
		step, track, toStep, toTrack int64
		want                         string
	}{
		{"to another step", 3, 1, 6, 1, "0/0:5 4/0:9 6/1:7 [1 2 3]"},
		{"to another track", 3, 1, 3, 2, "0/0:5 3/2:7 4/0:9 [1 2 3]"},
		{"to another step and another track", 4, 0, 2, 1, "0/0:5 2/1:9 3/1:7 [1 2 3]"},
		{"ahead of all", 4, 0, 0, 0, "[state]"},
		{"ahead of another pin of its step", 4, 0, 3, 0, "0/0:5 3/0:9 3/1:7 [1 2 3]"},
		{"behind all", 0, 0, 7, 2, "3/1:7 4/0:9 7/2:5 [1 2 3]"},
		{"from the last one to the step beside it", 4, 0, 5, 0, "0/0:5 3/1:7 5/0:9 [1 2 3]"},
		{"to its own place", 3, 1, 3, 1, "[state]"},
		{"to a place that has one", 3, 1, 4, 0, "[state]"},
		{"from a place that has none", 3, 0, 6, 0, "[state]"},
		{"from a place that has none to one that has one", 3, 0, 4, 0, "[state]"},
		{"from a place that has none to itself", 3, 0, 3, 0, "[state]"},
		{"to one step more", 0, 0, 8, 0, "[range]"},
		{"to one track more", 0, 0, 1, 3, "[range]"},
		{"to a step below 0", 0, 0, -1, 0, "[range]"},
		{"to a track below 0", 0, 0, 1, -1, "[range]"},
		{"to the least step", 0, 0, math.MinInt64, 0, "[range]"},
		{"to the greatest step", 0, 0, math.MaxInt64, 0, "[range]"},
		{"to the least track", 0, 0, 1, math.MinInt64, "[range]"},
		{"to the greatest track", 0, 0, 1, math.MaxInt64, "[range]"},
		{"from one step more", 8, 0, 1, 0, "[range]"},
		{"from one track more", 0, 3, 1, 0, "[range]"},
		{"from a step below 0", -1, 0, 1, 0, "[range]"},
		{"from a track below 0", 0, -1, 1, 0, "[range]"},
		{"from the least step", math.MinInt64, 0, 1, 0, "[range]"},
		{"from the greatest track", 0, math.MaxInt64, 1, 0, "[range]"},
		{"from a step of more bits", 256, 0, 1, 0, "[range]"},
		{"from a place that has none to one step more", 3, 0, 8, 0, "[range]"},
		{"from one step more to a place that has one", 8, 0, 4, 0, "[range]"},
	}
	for _, c := range cases {
		w, code := impl.MovePin(f, worn(wear), c.step, c.track, c.toStep, c.toTrack)
		wantEqual(t, shown(t, code, w), c.want, "move:", c.name)
		w, code = impl.DoWearAct(f, worn(wear), impl.Act{Kind: impl.AcMove, A: c.step, B: c.track, C: c.toStep, D: c.toTrack})
		wantEqual(t, shown(t, code, w), c.want, "act of moving:", c.name)
	}
	w, code := impl.MovePin(f, worn("[1 2 3]"), 0, 0, 1, 0)
	wantEqual(t, shown(t, code, w), "[state]", "move: without pins")
	w, code = impl.MovePin(f, worn("0/0:5 [1 2]"), 8, 0, 0, 0)
	wantEqual(t, shown(t, code, w), "[invalid]", "move: no wear")
	w, code = impl.MovePin(frame(8), worn("[]"), 0, 0, 1, 0)
	wantEqual(t, shown(t, code, w), "[invalid]", "move: no frame")
}

func TestDoWearAct(t *testing.T) {
	f, w := mustReadFrame(t, twoForOne), worn("0/0:5 3/1:7 [1 2 3]")
	for _, kind := range []int8{-128, -4, -1, 4, 5, 127} {
		done, code := impl.DoWearAct(f, w, impl.Act{Kind: kind})
		wantEqual(t, shown(t, code, done), "[range]", "act of the kind", kind)
		done, code = impl.DoWearAct(f, worn("[0 0]"), impl.Act{Kind: kind})
		wantEqual(t, shown(t, code, done), "[invalid]", "act of the kind", kind, "and no wear")
		done, code = impl.DoWearAct(frame(8), worn("[]"), impl.Act{Kind: kind})
		wantEqual(t, shown(t, code, done), "[invalid]", "act of the kind", kind, "and no frame")
	}
	// Moved pins lift other hammers, and new ones more.
	for text, want := range map[string]string{
		"turn 2":             "0/0:7 3/1:9 [3 4 3]",
		"move 0 0 0 2":       "0/2:5 3/1:7 [1 2 3]",
		"pin 1 1":            "0/0:5 1/1:0 3/1:7 [1 2 3]",
		"hammer 1":           "0/0:5 3/1:7 [1 0 3]",
		"turn 999993":        "0/0:999998 3/1:1000000 [999994 999995 3]",
		"turn 999994":        "[limit]",
		"turn 1000000":       "[limit]",
		"turn 1000001":       "[range]",
		"hammer 3":           "[range]",
		"pin 8 0":            "[range]",
		"move 0 0 3 1":       "[state]",
		"move 1 0 2 0":       "[state]",
		"move 1 0 8 0":       "[range]",
		"pin 0 0 8 8":        "0/0:0 3/1:7 [1 2 3]",
		"hammer 0 8 8 8":     "0/0:5 3/1:7 [0 2 3]",
		"turn 0 -1 -1 -1":    "0/0:5 3/1:7 [1 2 3]",
		"move 3 1 7 2":       "0/0:5 7/2:7 [1 2 3]",
		"turn 1 1000001 0 0": "0/0:6 3/1:8 [2 3 3]",
	} {
		done, code := impl.DoWearAct(f, w, acts(text)[0])
		wantEqual(t, shown(t, code, done), want, "act", text)
	}
}

func TestDoWearActs(t *testing.T) {
	fresh, old := "0/0:0 4/0:0 [0 0]", "0/0:10 4/0:3 [8 7]"
	// The last column is what FirstBreak returns.
	cases := []struct{ name, wear, acts, want, bad string }{
		{"none", fresh, "", "0/0:0 4/0:0 [0 0]", "[notfound]"},
		{"no turn", fresh, "turn 0", "0/0:0 4/0:0 [0 0]", "[notfound]"},
		{"a hammer makes its life almost", fresh, "turn 3", "0/0:3 4/0:3 [6 0]", "[notfound]"},
		{"a hammer makes more", fresh, "turn 4", "[proof]", "0"},
		{"a hammer makes more in the second act", fresh, "turn 3, turn 1", "[proof]", "1"},
		{"a new hammer between", fresh, "turn 3, hammer 0, turn 1", "0/0:4 4/0:4 [2 0]", "[notfound]"},
		{"a new hammer too late", fresh, "turn 4, hammer 0", "[proof]", "0"},
		{"another hammer between", fresh, "turn 3, hammer 1, turn 1", "[proof]", "2"},
		{"pins make their lives", fresh, "turn 3, hammer 0, turn 3, hammer 0, turn 3, hammer 0, turn 1", "0/0:10 4/0:10 [2 0]", "[notfound]"},
		{"pins make more", fresh, "turn 3, hammer 0, turn 3, hammer 0, turn 3, hammer 0, turn 2", "[proof]", "6"},
		{"one pin makes more", fresh, "turn 3, hammer 0, turn 3, hammer 0, turn 3, hammer 0, turn 1, pin 0 0, turn 1", "[proof]", "8"},
		{"new pins in time", fresh, "turn 3, hammer 0, turn 3, hammer 0, turn 3, hammer 0, turn 1, pin 0 0, pin 4 0, turn 2", "0/0:2 4/0:2 [6 0]", "[notfound]"},
		{"a moved pin lifts the other hammer", fresh, "turn 2, move 4 0 5 1, turn 3", "0/0:5 5/1:5 [7 3]", "[notfound]"},
		{"a moved pin may be moved back", fresh, "move 4 0 5 1, turn 1, move 5 1 4 0, turn 1", "0/0:2 4/0:2 [3 1]", "[notfound]"},
		{"a pin is moved to where one has been", fresh, "move 4 0 5 1, move 0 0 4 0", "4/0:0 5/1:0 [0 0]", "[notfound]"},
		{"a new pin is moved", fresh, "pin 7 1, move 7 1 6 1", "0/0:0 4/0:0 6/1:0 [0 0]", "[notfound]"},
		{"a new pin lifts its hammer", fresh, "turn 1, pin 5 0, turn 1", "0/0:2 4/0:2 5/0:1 [5 0]", "[notfound]"},
		{"numbers that are not used", fresh, "turn 1 -1 -1 -1, hammer 0 99 99 99, pin 0 0 99 99", "0/0:0 4/0:1 [0 0]", "[notfound]"},
		{"no such track", fresh, "hammer 2", "[range]", "0"},
		{"no such step", fresh, "pin 8 0", "[range]", "0"},
		{"less than no turn", fresh, "turn -1", "[range]", "0"},
		{"one more than MaxTurns", fresh, "turn 1000001", "[range]", "0"},
		{"too many turns", fresh, "turn 3, turn 1000000", "[limit]", "1"},
		{"no such kind", fresh, "turn 1, 4", "[range]", "1"},
		{"a kind less than 0", fresh, "-1, turn 4", "[range]", "0"},
		{"no such pin", fresh, "move 1 0 2 0", "[state]", "0"},
		{"a pin that has been moved already", fresh, "move 4 0 5 0, move 4 0 6 0", "[state]", "1"},
		{"a pin that is there", fresh, "pin 5 0, move 4 0 5 0", "[state]", "1"},
		{"of several errors a state", fresh, "turn 3, move 1 0 2 0, turn 1, hammer 2", "[state]", "1"},
		{"of several errors a proof", fresh, "turn 4, hammer 2, move 1 0 2 0", "[proof]", "0"},
		{"of several errors a range", fresh, "hammer 2, turn 4, move 1 0 2 0", "[range]", "0"},
		{"of several errors a limit", fresh, "turn 2, turn 1000000, turn 1000001, turn 4", "[limit]", "1"},
		{"of several errors one of the second kind", fresh, "turn 0, hammer 0, pin 0 0, 4, turn 4", "[range]", "3"},
		{"an error at last", fresh, "turn 0, hammer 0, pin 0 0, turn 4", "[proof]", "3"},
		{"worn out already, and no act", old, "", "0/0:10 4/0:3 [8 7]", "[notfound]"},
		{"worn out already, and no turn", old, "turn 0", "[proof]", "0"},
		{"worn out already, and another hammer", old, "hammer 1, hammer 0", "[proof]", "0"},
		{"worn out already, and made new", old, "hammer 0", "0/0:10 4/0:3 [0 7]", "[notfound]"},
		{"worn out already, and an error", old, "hammer 2", "[range]", "0"},
		{"worn out already, and another error", old, "move 0 0 4 0", "[state]", "0"},
		{"worn out already, made new, and worn out again", old, "hammer 0, turn 0, turn 1", "[proof]", "2"},
		{"a hammer without pins makes no more", old, "hammer 0, pin 0 0, turn 3", "0/0:3 4/0:6 [6 7]", "[notfound]"},
		{"no wear", "0/0:0 [0]", "hammer 9", "[invalid]", "[invalid]"},
		{"no wear, and no acts", "0/0:0 0/0:0 [0 0]", "", "[invalid]", "[invalid]"},
	}
	f := mustReadFrame(t, twoHammers)
	for _, c := range cases {
		w, code := impl.DoWearActs(f, worn(c.wear), exampleLives(), acts(c.acts))
		wantEqual(t, shown(t, code, w), c.want, "acts:", c.name)
		bad, code := impl.FirstBreak(f, worn(c.wear), exampleLives(), acts(c.acts))
		wantEqual(t, shown(t, code, bad), c.bad, "first break:", c.name)
	}
}

// TestDoMostActs does MaxActs acts, and one more.
func TestDoMostActs(t *testing.T) {
	f, w, v := mustReadFrame(t, twoHammers), exampleWear(), impl.Lives{Pin: 59, Hammer: 1000}
	turns := func(count int, last string) []impl.Act {
		return append(slices.Repeat(acts("turn 1"), count), acts(last)...)
	}
	cases := []struct {
		name      string
		f         impl.Frame
		w         impl.Wear
		v         impl.Lives
		list      []impl.Act
		want, bad string
	}{
		{"one less", f, w, v, turns(59, ""), "0/0:59 4/0:59 [118 0]", "[notfound]"},
		{"MaxActs", f, w, v, turns(59, "turn 0"), "0/0:59 4/0:59 [118 0]", "[notfound]"},
		{"the last one wears out", f, w, v, turns(60, ""), "[proof]", "59"},
		{"the last one is none", f, w, v, turns(59, "9"), "[range]", "59"},
		{"one more", f, w, v, turns(59, "turn 0, turn 0"), "[limit]", "[limit]"},
		{"one more, and the first one is none", f, w, v, append(acts("9"), turns(60, "")...), "[limit]", "[limit]"},
		{"many more", f, w, v, turns(1000, ""), "[limit]", "[limit]"},
		{"one more, and no frame", frame(8), w, v, turns(61, ""), "[invalid]", "[invalid]"},
		{"one more, and no wear", f, worn("0/0:0 [0]"), v, turns(61, ""), "[invalid]", "[invalid]"},
		{"one more, and no lives", f, w, impl.Lives{Pin: 1}, turns(61, ""), "[invalid]", "[invalid]"},
		{"no acts, and no lives", f, w, impl.Lives{Hammer: 1}, nil, "[invalid]", "[invalid]"},
	}
	for _, c := range cases {
		done, code := impl.DoWearActs(c.f, c.w, c.v, c.list)
		wantEqual(t, shown(t, code, done), c.want, "acts:", c.name)
		bad, code := impl.FirstBreak(c.f, c.w, c.v, c.list)
		wantEqual(t, shown(t, code, bad), c.bad, "first break:", c.name)
	}
}

func TestPartsFor(t *testing.T) {
	fresh := "0/0:0 4/0:0 [0 0]"
	cases := []struct {
		name, wear string
		v          impl.Lives
		turns      int64
		want       string
	}{
		{"no turn", fresh, exampleLives(), 0, "0; 0"},
		{"just before the first one", fresh, exampleLives(), 3, "0; 0"},
		{"a hammer", fresh, exampleLives(), 4, "0; 1"},
		{"just before the second one", fresh, exampleLives(), 6, "0; 1"},
		{"a hammer twice", fresh, exampleLives(), 7, "0; 2"},
		{"a hammer still twice", fresh, exampleLives(), 9, "0; 2"},
		{"a hammer three times", fresh, exampleLives(), 10, "0; 3"},
		{"pins", fresh, exampleLives(), 11, "2; 3"},
		{"a hammer four times", fresh, exampleLives(), 13, "2; 4"},
		{"just before pins again", fresh, exampleLives(), 20, "2; 6"},
		{"pins twice", fresh, exampleLives(), 21, "4; 6"},
		{"what has been made counts once", "0/0:9 4/0:0 [5 0]", exampleLives(), 11, "2; 4"},
		{"what has been made, and one turn less", "0/0:9 4/0:0 [5 0]", exampleLives(), 10, "1; 3"},
		{"before the first turn", "0/0:10 4/0:0 [7 0]", exampleLives(), 1, "1; 1"},
		{"before the first turn, for no turn", "0/0:10 4/0:10 [7 7]", exampleLives(), 0, "0; 0"},
		{"a hammer without pins", "0/0:0 [0 7]", exampleLives(), 7, "0; 0"},
		{"no pins", "[7 7]", impl.Lives{Pin: 1, Hammer: 7}, 1000000, "0; 0"},
		{"no pins, and a hammer that is worn out", "[7 8]", impl.Lives{Pin: 1, Hammer: 7}, 0, "[state]"},
		{"lives of 1", "0/0:0 [0 0]", impl.Lives{Pin: 1, Hammer: 1}, 5, "4; 4"},
		{"lives of 1 for MaxTurns", "0/0:0 [0 0]", impl.Lives{Pin: 1, Hammer: 1}, 1000000, "999999; 999999"},
		{"lives of 1 that are made, for MaxTurns", "0/0:1 [1 0]", impl.Lives{Pin: 1, Hammer: 1}, 1000000, "1000000; 1000000"},
		{"MaxLife for MaxTurns", "0/0:0 [0 0]", impl.Lives{Pin: 1000000, Hammer: 1000000}, 1000000, "0; 0"},
		{"one less than MaxLife for MaxTurns", "0/0:0 [0 0]", impl.Lives{Pin: 999999, Hammer: 999999}, 1000000, "1; 1"},
		{"MaxLife for MaxTurns, and a turn made", "0/0:1 [1 0]", impl.Lives{Pin: 1000000, Hammer: 1000000}, 1000000, "1; 1"},
		{"MaxLife that is made", "0/0:1000000 [1000000 0]", impl.Lives{Pin: 1000000, Hammer: 1000000}, 1000000, "1; 1"},
		{"two pins for MaxTurns", fresh, impl.Lives{Pin: 1000000, Hammer: 1000000}, 1000000, "0; 1"},
		{"a hammer that makes just its life in a turn", fresh, impl.Lives{Pin: 10, Hammer: 2}, 5, "0; 4"},
		{"a hammer that makes more in a turn than its life", fresh, impl.Lives{Pin: 10, Hammer: 1}, 5, "[state]"},
		{"a hammer that makes more, for no turn", fresh, impl.Lives{Pin: 10, Hammer: 1}, 0, "[state]"},
		{"the last hammer makes more", "0/1:0 4/1:0 [0 0]", impl.Lives{Pin: 10, Hammer: 1}, 0, "[state]"},
		{"a pin that is worn out", "0/0:11 4/0:0 [0 0]", exampleLives(), 5, "[state]"},
		{"a pin that is worn out, for no turn", "0/0:0 4/0:11 [0 0]", exampleLives(), 0, "[state]"},
		{"a hammer that is worn out", "0/0:0 4/0:0 [8 0]", exampleLives(), 5, "[state]"},
		{"a hammer without pins that is worn out", "0/0:0 4/0:0 [0 8]", exampleLives(), 5, "[state]"},
		{"less than no turn", fresh, exampleLives(), -1, "[range]"},
		{"one more than MaxTurns", fresh, exampleLives(), 1000001, "[range]"},
		{"the least number", fresh, exampleLives(), math.MinInt64, "[range]"},
		{"the greatest number", fresh, exampleLives(), math.MaxInt64, "[range]"},
		{"one more than MaxTurns, and worn out", "0/0:11 [8 0]", exampleLives(), 1000001, "[range]"},
		{"less than no turn, and a hammer that makes more", fresh, impl.Lives{Pin: 10, Hammer: 1}, -1, "[range]"},
		{"no lives", fresh, impl.Lives{Pin: 10}, -1, "[invalid]"},
		{"no wear", "0/0:0 [0]", exampleLives(), -1, "[invalid]"},
	}
	f := mustReadFrame(t, twoHammers)
	for _, c := range cases {
		pins, hammers, code := impl.PartsFor(f, worn(c.wear), c.v, c.turns)
		wantEqual(t, shown(t, code, pins, hammers), c.want, "parts:", c.name)
	}
	pins, hammers, code := impl.PartsFor(frame(8), worn("[]"), exampleLives(), 0)
	wantEqual(t, shown(t, code, pins, hammers), "[invalid]", "parts: no frame")
	great := likeHammers(96, 24, 0, 2, 20)
	full, _ := impl.FreshWear(great, fullDrum(great))
	pins, hammers, code = impl.PartsFor(great, full, impl.Lives{Pin: 1, Hammer: 96}, 1000000)
	wantEqual(t, shown(t, code, pins, hammers), fmt.Sprint(2304*999999, "; ", 24*999999), "all pins of the greatest frame")
}

func TestCheapestLives(t *testing.T) {
	bad, good := impl.Lives{Pin: 10, Hammer: 1}, exampleLives()
	many := func(count int, last ...impl.Lives) []impl.Lives {
		return append(slices.Repeat([]impl.Lives{bad}, count), last...)
	}
	cases := []struct {
		name               string
		pin, hammer, turns int64
		choices            []impl.Lives
		want               string
	}{
		{"one choice", 1, 2, 11, []impl.Lives{good}, "0; 8"},
		{"no turn", 1, 2, 0, []impl.Lives{good}, "0; 0"},
		{"pins have their price", 5, 0, 11, []impl.Lives{good}, "0; 10"},
		{"hammers have theirs", 0, 5, 11, []impl.Lives{good}, "0; 15"},
		{"the second one costs nothing", 1, 2, 10, []impl.Lives{good, {Pin: 10, Hammer: 40}}, "1; 0"},
		{"the second one costs twice as much", 1, 2, 11, []impl.Lives{{Pin: 1, Hammer: 1000000}, good}, "1; 16"},
		{"the first one costs just as much", 4, 0, 11, []impl.Lives{{Pin: 5, Hammer: 99}, good}, "0; 16"},
		{"the first one costs more by one part", 4, 4, 11, []impl.Lives{{Pin: 5, Hammer: 20}, {Pin: 10, Hammer: 30}}, "1; 16"},
		{"the third one costs three times as much", 0, 1, 12, []impl.Lives{{Pin: 9, Hammer: 2}, {Pin: 9, Hammer: 3}, {Pin: 9, Hammer: 8}}, "2; 6"},
		{"equal prices, and other lives", 0, 1, 7, []impl.Lives{good, {Pin: 10, Hammer: 12}}, "0; 2"},
		{"equal prices, and lives that are equal", 0, 0, 11, []impl.Lives{good, good, good}, "0; 0"},
		{"equal prices of nothing", 9, 9, 3, []impl.Lives{good, {Pin: 99, Hammer: 99}}, "0; 0"},
		{"equal prices behind a greater one", 1, 1, 10, []impl.Lives{good, {Pin: 99, Hammer: 99}, {Pin: 50, Hammer: 99}}, "1; 0"},
		{"an error first", 1, 2, 11, []impl.Lives{bad, good}, "1; 16"},
		{"an error at last", 1, 2, 11, []impl.Lives{good, bad}, "0; 8"},
		{"errors between", 1, 2, 11, []impl.Lives{bad, bad, good, bad, {Pin: 99, Hammer: 99}}, "4; 0"},
		{"an error that would cost nothing", 0, 0, 0, []impl.Lives{bad, good}, "1; 0"},
		{"errors alone", 1, 2, 11, []impl.Lives{bad, bad}, "[notfound]"},
		{"an error alone", 0, 0, 0, []impl.Lives{bad}, "[notfound]"},
		{"prices of 1000", 1000, 1000, 11, []impl.Lives{good}, "0; 5000"},
		{"a price of 1000, and one of 0", 1000, 0, 11, []impl.Lives{good}, "0; 2000"},
		{"a price for pins of one more", 1001, 0, 11, []impl.Lives{good}, "[range]"},
		{"a price for hammers of one more", 0, 1001, 11, []impl.Lives{good}, "[range]"},
		{"a price for pins below 0", -1, 0, 11, []impl.Lives{good}, "[range]"},
		{"a price for hammers below 0", 0, -1, 11, []impl.Lives{good}, "[range]"},
		{"the least price", math.MinInt64, 0, 11, []impl.Lives{good}, "[range]"},
		{"the greatest price", 0, math.MaxInt64, 11, []impl.Lives{good}, "[range]"},
		{"less than no turn", 1, 2, -1, []impl.Lives{good}, "[range]"},
		{"MaxTurns", 1, 2, 1000000, []impl.Lives{good}, "0; 866664"},
		{"one more than MaxTurns", 1, 2, 1000001, []impl.Lives{good}, "[range]"},
		{"one more than MaxTurns, and errors alone", 1, 2, 1000001, []impl.Lives{bad}, "[range]"},
		{"no choices", 1, 2, 11, nil, "[range]"},
		{"no choices in a list", 1, 2, 11, []impl.Lives{}, "[range]"},
		{"20 choices", 1, 2, 11, many(19, good), "19; 160"},
		{"20 choices with errors", 1, 2, 11, many(20), "[notfound]"},
		{"21 choices", 1, 2, 11, many(20, good), "[range]"},
		{"21 choices with errors", 1, 2, 11, many(21), "[range]"},
		{"21 choices, the first one being good", 1, 2, 11, append([]impl.Lives{good}, many(20)...), "[range]"},
		{"no lives", 1, 2, 11, []impl.Lives{good, {Pin: 10}}, "[invalid]"},
		{"no lives first", 1, 2, 11, []impl.Lives{{Hammer: 7}, good}, "[invalid]"},
		{"no lives, and a price of one more", 1001, 2, 11, []impl.Lives{good, {Pin: 10, Hammer: 1000001}}, "[invalid]"},
		{"no lives, and 21 choices", 1, 2, 11, many(20, impl.Lives{}), "[invalid]"},
	}
	f := mustReadFrame(t, twoHammers)
	for _, c := range cases {
		best, price, code := impl.CheapestLives(f, exampleWear(), c.pin, c.hammer, c.turns, c.choices)
		wantEqual(t, shown(t, code, best, price), c.want, "cheapest:", c.name)
	}
	// Something that is worn out for one choice is not for another one.
	best, price, code := impl.CheapestLives(f, worn("0/0:0 [8 0]"), 1, 1, 9, []impl.Lives{good, {Pin: 8, Hammer: 8}})
	wantEqual(t, shown(t, code, best, price), "1; 6", "cheapest: worn out")
	best, price, code = impl.CheapestLives(f, worn("0/0:0 [0]"), -1, 1, 9, nil)
	wantEqual(t, shown(t, code, best, price), "[invalid]", "cheapest: no wear")
	best, price, code = impl.CheapestLives(frame(8), worn("[]"), -1, 1, 9, nil)
	wantEqual(t, shown(t, code, best, price), "[invalid]", "cheapest: no frame")
	great := likeHammers(96, 24, 0, 2, 20)
	full, _ := impl.FreshWear(great, fullDrum(great))
	most := slices.Repeat([]impl.Lives{{Pin: 1, Hammer: 1}}, 20)
	most[19].Hammer = 96
	best, price, code = impl.CheapestLives(great, full, 1000, 1000, 1000000, most)
	wantEqual(t, shown(t, code, best, price), fmt.Sprint("19; ", 2328*999999*1000*20), "cheapest: the greatest price")
}

func TestActsText(t *testing.T) {
	for list, text := range map[string]string{
		"":                                   "",
		"turn 0":                             "turn 0\n",
		"turn 4":                             "turn 4\n",
		"turn 1000000":                       "turn 1000000\n",
		"hammer 0":                           "hammer 0\n",
		"hammer 23":                          "hammer 23\n",
		"pin 0 0":                            "pin 0 0\n",
		"pin 95 23":                          "pin 95 23\n",
		"move 0 0 0 0":                       "move 0 0 0 0\n",
		"move 1 2 3 4":                       "move 1 2 3 4\n",
		"hammer 1000000":                     "hammer 1000000\n",
		"pin 1000000 999999":                 "pin 1000000 999999\n",
		"turn 4, move 4 0 5 1":               "turn 4\nmove 4 0 5 1\n",
		"pin 10 0, hammer 10, turn 9, pin 1": "pin 10 0\nhammer 10\nturn 9\npin 1 0\n",
		"move 1000000 1000000 1000000 1000000, turn 0": "move 1000000 1000000 1000000 1000000\nturn 0\n",
	} {
		wantEqual(t, impl.ActsText(acts(list)), text, "text of", list)
		read, code := impl.ReadActs(text)
		wantEqual(t, shown(t, code, read), fmt.Sprint(acts(list)), "read", text)
	}
	for _, list := range []string{
		"turn -1", "turn 1000001", "hammer -1", "hammer 1000001", "pin -1 0", "pin 0 -1", "pin 1000001 0", "pin 0 1000001",
		"move -1 0 0 0", "move 0 -1 0 0", "move 0 0 -1 0", "move 0 0 0 -1", "move 1000001 0 0 0", "move 0 1000001 0 0", "move 0 0 1000001 0", "move 0 0 0 1000001",
		"turn 1 1", "turn 1 0 1", "turn 1 0 0 1", "turn 1 -1", "hammer 1 1", "hammer 1 0 1", "hammer 1 0 0 1", "pin 1 1 1", "pin 1 1 0 1", "pin 1 1 -1",
		"turn -9223372036854775808", "turn 9223372036854775807", "turn 4294967296", "move 0 0 0 9223372036854775807",
		"4", "-1", "127", "-128", "4 1 2 3 4", "turn 1, turn 1, 4", "4, turn 1", "turn 1, turn -1, turn 1",
	} {
		wantEqual(t, impl.ActsText(acts(list)), "", "text of", list)
	}
	most := strings.Repeat("turn 1\n", 60)
	wantEqual(t, impl.ActsText(slices.Repeat(acts("turn 1"), 60)), most, "text of MaxActs acts")
	wantEqual(t, impl.ActsText(slices.Repeat(acts("turn 1"), 61)), "", "text of one more")
	read, code := impl.ReadActs(most)
	wantEqual(t, shown(t, code, read), fmt.Sprint(slices.Repeat(acts("turn 1"), 60)), "read MaxActs acts")
	for _, end := range []string{"turn 1\n", "turn 1", "turn", "\n", " ", "x", strings.Repeat("turn 1\n", 1000)} {
		read, code = impl.ReadActs(most + end)
		wantEqual(t, shown(t, code, read), "[syntax]", "read MaxActs acts, and", end)
	}
}

func TestNoActsTexts(t *testing.T) {
	for _, text := range []string{
		" ", "\n", "\n\n", "x", "turn", "turn ", "turn\n", "turn \n", "turn 4", "turn 4 ", "turn 4 \n", " turn 4\n", "\nturn 4\n", "turn  4\n", "turn 4\n\n", "turn 4\n ", "turn 4\r\n", "turn\t4\n", "turn\n4\n", "turn 4\nturn 4",
		"turn 04\n", "turn 00\n", "turn +4\n", "turn -4\n", "turn -0\n", "turn 4.\n", "turn 4.0\n", "turn 4e0\n", "turn 0x4\n", "turn 1_0\n", "turn four\n", "turn ٤\n", "turn 4\x00\n", "turn 4,\n",
		"turn 1000001\n", "turn 9223372036854775807\n", "turn 9223372036854775808\n", "turn -9223372036854775808\n", "turn 99999999999999999999\n", "turn 4294967300\n",
		"Turn 4\n", "TURN 4\n", "tur 4\n", "turns 4\n", "turn4\n", "4 turn\n", "0 4\n", "hamer 0\n", "pins 0 0\n", "mov 0 0 1 1\n", "\n4\n", " 4\n",
		"turn 4 0\n", "turn 4 5\n", "turn 4 0 0 0\n", "hammer\n", "hammer 0 0\n", "hammer 1 2\n", "pin\n", "pin 0\n", "pin 0 \n", "pin 0 0 0\n", "pin 0 0 1\n", "pin 0 0 0 0\n", "move\n", "move 0\n", "move 0 0\n", "move 0 0 1\n", "move 0 0 1 \n", "move 0 0 1 1 1\n", "move 0 0 1 1 0\n", "move 0 0 1 1 0 0 0 0 0\n", "move 00 0 1 1\n", "move 0 0 1 01\n", "move 0 0 -1 1\n",
		"turn 4\nx\n", "x\nturn 4\n", "turn 4\nhammer 2 0\nturn 1\n", "turn 4\n\nturn 1\n", "turn 4\nturn 1000001\n", "turn 4 turn 4\n", "turn 4;turn 4\n",
	} {
		read, code := impl.ReadActs(text)
		wantEqual(t, shown(t, code, read), "[syntax]", "read", text)
	}
}
