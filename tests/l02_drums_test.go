package tests

import (
	"fmt"
	"math"
	"strings"
	"testing"

	"loop.example/g01311/impl"
)

// This file has chapter 2's results written out: the document's example, its edges, and its errors.

const exampleFrame = "8 c2/3 e2/2 c2/3"

func mustReadFrame(t *testing.T, text string) impl.Frame {
	t.Helper()
	read, code := impl.ReadFrame(text)
	wantEqual(t, code, impl.OK, "read", text)
	return read
}

// pinned makes a drum of pairs of a step and the track of a pin.
func pinned(numbers ...int) impl.Drum {
	var d impl.Drum
	for i := 0; i < len(numbers); i += 2 {
		d[numbers[i]] |= 1 << numbers[i+1]
	}
	return d
}

// exampleDrum has pins of the track 0 at the steps 0 and 6, and of the track 1 at 3.
func exampleDrum() impl.Drum { return pinned(0, 0, 6, 0, 3, 1) }

func TestDrumLimits(t *testing.T) {
	wantEqual(t, fmt.Sprint(impl.MaxSteps, impl.MaxTracks, impl.MaxReady, len(impl.Drum{})), "96 24 20 96", "limits")
}

func TestDrumExample(t *testing.T) {
	f, d := mustReadFrame(t, exampleFrame), exampleDrum()
	wantEqual(t, rawFrame(f), "8 [{24 3} {28 2} {24 3}]", "frame")
	wantEqual(t, impl.ValidDrum(f, d), true, "valid")
	tune, code := impl.TuneOf(f, d)
	wantTune(t, tune, code, "0:c2 3:e2 6:c2", "tune")
	clashes, code := impl.ClashesOf(f, d)
	wantEqual(t, fmt.Sprint(clashes, code), "[[6 0]] 0", "clashes")
	can, code := impl.IsPlayable(f, d)
	wantEqual(t, fmt.Sprint(can, code), "false 0", "playable")
	step, track, code := impl.FirstClash(f, d)
	wantEqual(t, fmt.Sprint(step, track, code), "6 0 0", "first clash")
	places, code := impl.FreePlaces(f, d, 1)
	wantEqual(t, fmt.Sprint(places, code), "[0 1 5 6 7] 0", "free places")
	tracks, code := impl.FreeTracks(f, d, 6, 24)
	wantEqual(t, fmt.Sprint(tracks, code), "[2] 0", "free tracks")
	picture, code := impl.DrumPicture(f, d)
	wantEqual(t, fmt.Sprint(picture, code), "[........ ...x.... x.....!.] 0", "picture")
}

func TestValidFrame(t *testing.T) {
	for _, f := range validFrames() {
		wantEqual(t, impl.ValidFrame(f), true, "valid frame", rawFrame(f))
	}
	for _, f := range invalidFrames() {
		wantEqual(t, impl.ValidFrame(f), false, "invalid frame", rawFrame(f))
	}
}

func TestValidFrameLimits(t *testing.T) {
	cases := []struct {
		f    impl.Frame
		want bool
	}{
		{frame(1, 24, 1), false},
		{frame(2, 24, 1), true},
		{frame(96, 24, 1), true},
		{frame(97, 24, 1), false},
		{frame(8), false},
		{likeHammers(8, 1, 0, 0, 1), true},
		{likeHammers(8, 24, 0, 0, 1), true},
		{likeHammers(8, 25, 0, 0, 1), false},
		{frame(8, -1, 1), false},
		{frame(8, 0, 1), true},
		{frame(8, 47, 1), true},
		{frame(8, 48, 1), false},
		{frame(96, 24, 0), false},
		{frame(96, 24, 20), true},
		{frame(96, 24, 21), false},
		{frame(7, 24, 7), true},
		{frame(7, 24, 8), false},
		{frame(20, 24, 20), true},
		{frame(21, 24, 21), false},
	}
	for _, c := range cases {
		wantEqual(t, impl.ValidFrame(c.f), c.want, rawFrame(c.f))
	}
}

func TestValidDrum(t *testing.T) {
	for _, f := range validFrames() {
		for _, d := range drumsFor(f) {
			wantEqual(t, impl.ValidDrum(f, d), true, "valid drum", rawFrame(f), rawDrum(d))
		}
		for _, d := range invalidDrumsFor(f) {
			wantEqual(t, impl.ValidDrum(f, d), false, "invalid drum", rawFrame(f), rawDrum(d))
		}
	}
	for _, f := range invalidFrames() {
		wantEqual(t, impl.ValidDrum(f, impl.Drum{}), false, "no drum is valid for", rawFrame(f))
	}
	wantEqual(t, impl.ValidDrum(likeHammers(96, 24, 0, 1, 1), impl.Drum{95: 1 << 23}), true, "the last place")
	wantEqual(t, impl.ValidDrum(likeHammers(96, 24, 0, 1, 1), impl.Drum{95: 1 << 24}), false, "a track too many")
	wantEqual(t, impl.ValidDrum(likeHammers(95, 24, 0, 1, 1), impl.Drum{95: 1}), false, "a step too many")
}

func TestTuneOf(t *testing.T) {
	like, pair := likeHammers(96, 24, 24, 0, 1), likeHammers(96, 2, 24, 1, 1)
	// 96 notes of one pitch, and 24 of another one.
	just := fullDrum(pair)
	for step := 24; step < 96; step++ {
		just[step] = 1
	}
	more := just
	more[24] = 3
	cases := []struct {
		name string
		f    impl.Frame
		d    impl.Drum
		want string
	}{
		{"no pin", pair, impl.Drum{}, ""},
		{"the last place", likeHammers(96, 24, 24, 1, 1), pinned(95, 23), "95:b3"},
		{"equal notes made one", frame(8, 24, 3, 28, 2, 24, 3), pinned(2, 0, 2, 2), "2:c2"},
		{"ordered by pitch, not by track", frame(8, 28, 3, 24, 2), pinned(2, 0, 2, 1), "2:c2 2:e2"},
		{"more pins than notes", like, fullDrum(like), impl.TuneText(row(96, 0, 24, 1, 0))},
		{"a note too many", pair, more, "[limit]"},
		{"far too many", pair, fullDrum(pair), "[limit]"},
	}
	for _, c := range cases {
		tune, code := impl.TuneOf(c.f, c.d)
		wantTune(t, tune, code, c.want, c.name)
	}
	tune, code := impl.TuneOf(pair, just)
	wantEqual(t, fmt.Sprint(len(tune), impl.ValidTune(tune), code), "120 true 0", "just enough notes")
	double := likeHammers(96, 3, 24, 0, 1)
	double.Hammers[1].Pitch = 25
	for step := range just {
		just[step] |= just[step] & 1 << 2
	}
	tune, code = impl.TuneOf(double, just)
	wantEqual(t, fmt.Sprint(len(tune), code), "120 0", "just enough notes of more pins")
}

func TestClashes(t *testing.T) {
	cases := []struct {
		name  string
		frame string
		d     impl.Drum
		want  string
	}{
		{"no pin", "8 c2/3", impl.Drum{}, "[] true -1"},
		{"a pin alone, ready when it comes again", "8 c2/8", pinned(5, 0), "[] true -1"},
		{"a pin alone, in two steps", "2 c2/2", pinned(1, 0), "[] true -1"},
		{"both steps", "2 c2/2", pinned(0, 0, 1, 0), "[[0 0] [1 0]] false 0"},
		{"both steps, ready in one", "2 c2/1", pinned(0, 0, 1, 0), "[] true -1"},
		{"just ready", "8 c2/3", pinned(0, 0, 3, 0), "[] true -1"},
		{"not quite ready", "8 c2/3", pinned(0, 0, 2, 0), "[[0 0]] false 0"},
		{"just ready behind the last step", "8 c2/3", pinned(5, 0, 0, 0), "[] true -1"},
		{"not quite ready behind the last step", "8 c2/3", pinned(6, 0, 0, 0), "[[6 0]] false 6"},
		{"the last step and the first one", "8 c2/2", pinned(7, 0, 0, 0), "[[7 0]] false 7"},
		{"ready for the first one", "8 c2/1", pinned(7, 0, 0, 0), "[] true -1"},
		{"too near on both sides", "6 c2/4", pinned(0, 0, 3, 0), "[[0 0] [3 0]] false 0"},
		{"two hammers of one pitch", "8 c2/3 c2/3", pinned(0, 0, 1, 1, 3, 0, 4, 1), "[] true -1"},
		{"each hammer has its time", "8 c2/3 c2/2", pinned(0, 0, 0, 1, 2, 0, 2, 1), "[[0 0]] false 0"},
		{"ordered by step, then by track", "8 c2/3 e2/3", pinned(1, 0, 2, 0, 0, 1, 1, 1, 2, 1), "[[0 1] [1 0] [1 1]] false 0"},
		{"the longest time", "96 c2/20", pinned(0, 0, 19, 0, 39, 0, 76, 0), "[[0 0]] false 0"},
		{"the longest time behind the last step", "96 c2/20", pinned(0, 0, 77, 0), "[[77 0]] false 77"},
	}
	for _, c := range cases {
		f := mustReadFrame(t, c.frame)
		list, one := impl.ClashesOf(f, c.d)
		can, two := impl.IsPlayable(f, c.d)
		step, track, three := impl.FirstClash(f, c.d)
		wantEqual(t, fmt.Sprint(one, two), "0 0", c.name)
		if three == impl.ErrNotFound {
			wantEqual(t, fmt.Sprint(step, track), "0 0", c.name, "no place with an error")
			step = -1
		} else {
			wantEqual(t, [2]int64{step, track}, list[0], c.name, "first clash")
		}
		wantEqual(t, fmt.Sprint(list, can, step), c.want, c.name)
	}
}

func TestPins(t *testing.T) {
	f, d := mustReadFrame(t, exampleFrame), exampleDrum()
	cases := []struct {
		step, track         int64
		with, without, pins string
	}{
		{0, 0, "[state]", "3:2 6:1", "true"},
		{6, 0, "[state]", "0:1 3:2", "true"},
		{3, 1, "[state]", "0:1 6:1", "true"},
		{3, 0, "0:1 3:3 6:1", "[state]", "false"},
		{7, 2, "0:1 3:2 6:1 7:4", "[state]", "false"},
		{7, 0, "0:1 3:2 6:1 7:1", "[state]", "false"},
		{8, 0, "[range]", "[range]", "[range]"},
		{-1, 0, "[range]", "[range]", "[range]"},
		{0, 3, "[range]", "[range]", "[range]"},
		{0, -1, "[range]", "[range]", "[range]"},
		{96, 32, "[range]", "[range]", "[range]"},
		{math.MinInt64, math.MaxInt64, "[range]", "[range]", "[range]"},
		{math.MaxInt64, 0, "[range]", "[range]", "[range]"},
		{0, math.MinInt64, "[range]", "[range]", "[range]"},
		{1 << 32, 0, "[range]", "[range]", "[range]"},
		{0, 1 << 32, "[range]", "[range]", "[range]"},
		{256, 0, "[range]", "[range]", "[range]"},
	}
	for _, c := range cases {
		with, one := impl.WithPin(f, d, c.step, c.track)
		wantDrum(t, with, one, c.with, "with", c.step, c.track)
		without, two := impl.WithoutPin(f, d, c.step, c.track)
		wantDrum(t, without, two, c.without, "without", c.step, c.track)
		has, three := impl.HasPin(f, d, c.step, c.track)
		text := fmt.Sprint(has)
		if three != impl.OK {
			wantEqual(t, has, false, "no answer with an error")
			text = "[" + impl.CodeName(three) + "]"
		}
		wantEqual(t, text, c.pins, "has", c.step, c.track)
	}
}

// wantDrum asks for a drum as rawDrum shows it; a text in brackets stands for an error, which comes with no drum.
func wantDrum(t *testing.T, got impl.Drum, code int64, want string, name ...any) {
	t.Helper()
	text := rawDrum(got)
	if code != impl.OK {
		text = "[" + impl.CodeName(code) + "]" + text
	}
	wantEqual(t, text, want, name...)
}

func TestCounts(t *testing.T) {
	f := mustReadFrame(t, exampleFrame)
	cases := []struct {
		d      impl.Drum
		counts string
	}{
		{impl.Drum{}, "0 [0 0 0]"},
		{exampleDrum(), "3 [2 1 0]"},
		{pinned(7, 2), "1 [0 0 1]"},
		{fullDrum(f), "24 [8 8 8]"},
	}
	for _, c := range cases {
		count, one := impl.CountPins(f, c.d)
		tracks, two := impl.PinsByTrack(f, c.d)
		wantEqual(t, fmt.Sprint(count, tracks, one, two), c.counts+" 0 0", "counts of", rawDrum(c.d))
	}
	great := likeHammers(96, 24, 24, 0, 20)
	count, code := impl.CountPins(great, fullDrum(great))
	wantEqual(t, fmt.Sprint(count, code), "2304 0", "all pins that there can be")
	add, take, code := impl.PinsToMove(great, fullDrum(great), impl.Drum{})
	wantEqual(t, fmt.Sprint(add, take, code), "0 2304 0", "all pins out")
	add, take, code = impl.PinsToMove(great, impl.Drum{}, fullDrum(great))
	wantEqual(t, fmt.Sprint(add, take, code), "2304 0 0", "all pins in")
	add, take, code = impl.PinsToMove(f, exampleDrum(), pinned(0, 0, 6, 1, 7, 2, 1, 1))
	wantEqual(t, fmt.Sprint(add, take, code), "3 2 0", "some in, some out")
	add, take, code = impl.PinsToMove(f, exampleDrum(), exampleDrum())
	wantEqual(t, fmt.Sprint(add, take, code), "0 0 0", "equal drums")
}

func TestFreePlaces(t *testing.T) {
	cases := []struct {
		name  string
		frame string
		d     impl.Drum
		track int64
		want  string
	}{
		{"no pin", "8 c2/8", impl.Drum{}, 0, "[0 1 2 3 4 5 6 7] 0"},
		{"two steps, ready in two", "2 c2/2", pinned(1, 0), 0, "[] 0"},
		{"two steps, ready in one", "2 c2/1", pinned(1, 0), 0, "[0] 0"},
		{"ready in one", "5 c2/1", pinned(0, 0, 2, 0, 4, 0), 0, "[1 3] 0"},
		{"ready in as many as there are", "5 c2/5", pinned(2, 0), 0, "[] 0"},
		{"the opposite side alone", "6 c2/3", pinned(1, 0), 0, "[4] 0"},
		{"no opposite side", "5 c2/3", pinned(1, 0), 0, "[] 0"},
		{"near the last step", "8 c2/3", pinned(7, 0), 0, "[2 3 4] 0"},
		{"near the first step", "8 c2/3", pinned(0, 0), 0, "[3 4 5] 0"},
		{"between two pins", "8 c2/3", pinned(0, 0, 6, 0), 0, "[3] 0"},
		{"clashes elsewhere", "12 c2/3", pinned(0, 0, 1, 0, 2, 0), 0, "[5 6 7 8 9] 0"},
		{"pins of other tracks", "4 c2/2 c2/2", pinned(0, 1, 1, 1, 2, 1, 3, 1), 0, "[0 1 2 3] 0"},
		{"all pins", "4 c2/1", pinned(0, 0, 1, 0, 2, 0, 3, 0), 0, "[] 0"},
		{"no such track", "4 c2/1", impl.Drum{}, 1, "[] 2"},
		{"no track below 0", "4 c2/1", impl.Drum{}, -1, "[] 2"},
		{"the least number", "4 c2/1", impl.Drum{}, math.MinInt64, "[] 2"},
		{"the greatest number", "4 c2/1", impl.Drum{}, math.MaxInt64, "[] 2"},
	}
	for _, c := range cases {
		list, code := impl.FreePlaces(mustReadFrame(t, c.frame), c.d, c.track)
		wantEqual(t, fmt.Sprint(list, code), c.want, c.name)
	}
	list, code := impl.FreePlaces(mustReadFrame(t, "96 c2/20"), pinned(0, 0, 40, 0), 0)
	wantEqual(t, fmt.Sprint(list, code), "[20 60 61 62 63 64 65 66 67 68 69 70 71 72 73 74 75 76] 0", "the greatest drum")
}

func TestFreeTracks(t *testing.T) {
	f := mustReadFrame(t, "8 c2/3 e2/2 c2/2 c2/1")
	d := pinned(0, 0, 0, 2, 0, 3, 4, 1)
	cases := []struct {
		step, pitch int64
		want        string
	}{
		{0, 24, "[] 0"},
		{1, 24, "[3] 0"},
		{2, 24, "[2 3] 0"},
		{3, 24, "[0 2 3] 0"},
		{6, 24, "[2 3] 0"},
		{7, 24, "[3] 0"},
		{7, 28, "[1] 0"},
		{4, 28, "[] 0"},
		{4, 25, "[] 0"},
		{4, 0, "[] 0"},
		{4, 47, "[] 0"},
		{4, 48, "[] 2"},
		{4, -1, "[] 2"},
		{8, 24, "[] 2"},
		{-1, 24, "[] 2"},
		{math.MaxInt64, 24, "[] 2"},
		{4, math.MinInt64, "[] 2"},
		{4, 256 + 24, "[] 2"},
	}
	for _, c := range cases {
		list, code := impl.FreeTracks(f, d, c.step, c.pitch)
		wantEqual(t, fmt.Sprint(list, code), c.want, "free tracks", c.step, c.pitch)
	}
}

func TestTurnDrum(t *testing.T) {
	f, d := mustReadFrame(t, exampleFrame), exampleDrum()
	cases := []struct {
		by   int64
		want string
	}{
		{0, "0:1 3:2 6:1"},
		{1, "1:1 4:2 7:1"},
		{2, "0:1 2:1 5:2"},
		{7, "2:2 5:1 7:1"},
		{8, "[range]"},
		{-1, "[range]"},
		{math.MinInt64, "[range]"},
		{math.MaxInt64, "[range]"},
		{1 << 32, "[range]"},
	}
	for _, c := range cases {
		turned, code := impl.TurnDrum(f, d, c.by)
		wantDrum(t, turned, code, c.want, "turn by", c.by)
	}
	great := likeHammers(96, 24, 24, 0, 20)
	turned, code := impl.TurnDrum(great, pinned(95, 23, 0, 1), 95)
	wantDrum(t, turned, code, "94:8388608 95:2", "the greatest drum by the most")
}

func TestMirrorDrum(t *testing.T) {
	f := mustReadFrame(t, exampleFrame)
	for _, c := range []struct {
		d    impl.Drum
		want string
	}{
		{impl.Drum{}, ""},
		{exampleDrum(), "1:1 4:2 7:1"},
		{pinned(0, 2), "7:4"},
	} {
		mirrored, code := impl.MirrorDrum(f, c.d)
		wantDrum(t, mirrored, code, c.want, "mirror", rawDrum(c.d))
	}
	mirrored, code := impl.MirrorDrum(mustReadFrame(t, "7 c2/1"), pinned(3, 0, 6, 0))
	wantDrum(t, mirrored, code, "0:1 3:1", "the step in the middle stays")
	mirrored, code = impl.MirrorDrum(mustReadFrame(t, "96 c2/1"), pinned(95, 0, 1, 0))
	wantDrum(t, mirrored, code, "0:1 94:1", "the greatest drum")
}

func TestBellsAndHammers(t *testing.T) {
	f := frame(8, 0, 1, 47, 2, 0, 3)
	bells, code := impl.BellsOf(f)
	wantEqual(t, fmt.Sprint(bells, code), fmt.Sprint(uint64(1)<<47+1, 0), "bells")
	for pitch, want := range map[int64]string{0: "2 0", 1: "0 0", 46: "0 0", 47: "1 0", 48: "0 2", -1: "0 2", 256: "0 2", math.MinInt64: "0 2", math.MaxInt64: "0 2"} {
		count, code := impl.HammersFor(f, pitch)
		wantEqual(t, fmt.Sprint(count, code), want, "hammers for", pitch)
	}
	count, code := impl.HammersFor(likeHammers(2, 24, 9, 0, 2), 9)
	wantEqual(t, fmt.Sprint(count, code), "24 0", "all hammers of one pitch")
}

func TestSwapTracks(t *testing.T) {
	f, d := mustReadFrame(t, exampleFrame), exampleDrum()
	cases := []struct {
		a, b int64
		want string
	}{
		{0, 1, "8 e2/2 c2/3 c2/3; 0:2 3:1 6:2"},
		{1, 0, "8 e2/2 c2/3 c2/3; 0:2 3:1 6:2"},
		{0, 2, "8 c2/3 e2/2 c2/3; 0:4 3:2 6:4"},
		{2, 1, "8 c2/3 c2/3 e2/2; 0:1 3:4 6:1"},
		{1, 1, "8 c2/3 e2/2 c2/3; 0:1 3:2 6:1"},
		{0, 3, "[range]"},
		{3, 0, "[range]"},
		{-1, 0, "[range]"},
		{0, -1, "[range]"},
		{3, 3, "[range]"},
		{math.MinInt64, 0, "[range]"},
		{0, math.MaxInt64, "[range]"},
		{1 << 32, 1, "[range]"},
	}
	for _, c := range cases {
		other, swapped, code := impl.SwapTracks(f, d, c.a, c.b)
		text := impl.FrameText(other) + "; " + rawDrum(swapped)
		if code != impl.OK {
			wantEqual(t, rawFrame(other)+rawDrum(swapped), "0 []", "nothing with an error")
			text = "[" + impl.CodeName(code) + "]"
		}
		wantEqual(t, text, c.want, "swap", c.a, c.b)
	}
	_, both, code := impl.SwapTracks(f, pinned(1, 0, 1, 1, 2, 0, 2, 2), 0, 1)
	wantDrum(t, both, code, "1:3 2:6", "pins of both tracks at one step")
}

func TestDrumPicture(t *testing.T) {
	cases := []struct {
		frame string
		d     impl.Drum
		want  string
	}{
		{"2 c2/1", impl.Drum{}, ".."},
		{"2 c2/1", pinned(0, 0, 1, 0), "xx"},
		{"2 c2/2", pinned(0, 0, 1, 0), "!!"},
		{"3 c2/1 c2/2 c2/3", pinned(0, 0, 2, 0, 0, 1, 2, 1, 1, 2), ".x./x.!/x.x"},
	}
	for _, c := range cases {
		lines, code := impl.DrumPicture(mustReadFrame(t, c.frame), c.d)
		wantEqual(t, fmt.Sprint(strings.Join(lines, "/"), code), c.want+"0", "picture", c.frame, rawDrum(c.d))
	}
	lines, code := impl.DrumPicture(likeHammers(96, 24, 24, 0, 20), pinned(95, 23))
	wantEqual(t, fmt.Sprint(len(lines), code), "24 0", "the greatest picture")
	wantEqual(t, lines[0], strings.Repeat(".", 95)+"x", "its first line is the last track")
	wantEqual(t, lines[23], strings.Repeat(".", 96), "its last line is the first track")
}

func TestFrameTexts(t *testing.T) {
	for _, f := range validFrames() {
		read, code := impl.ReadFrame(impl.FrameText(f))
		wantEqual(t, answers(code, read), answers(impl.OK, f), "text", rawFrame(f))
	}
	for _, f := range invalidFrames() {
		wantEqual(t, impl.FrameText(f), "", "text of what is no frame", rawFrame(f))
	}
	wantEqual(t, impl.FrameText(frame(96, 0, 20, 47, 1)), "96 c0/20 b3/1", "text")
}

func TestNoFrameTexts(t *testing.T) {
	full := "8" + strings.Repeat(" c2/3", 24)
	wantEqual(t, len(mustReadFrame(t, full).Hammers), 24, "just enough hammers")
	for _, text := range []string{
		full + " c2/3", full + " ", full + " c2", full + strings.Repeat(" c2/3", 9), full + " c2/3 x",
		"", " ", "8", "8 ", " 8", "c2/3", " c2/3", "8 8", "8 c2/3 8", "c2/3 8",
		" 8 c2/3", "8  c2/3", "8 c2/3 ", "8 c2/3  c2/3", "8\tc2/3", "8\nc2/3", "8 c2/3\n", "8,c2/3", "8c2/3", "8/c2/3",
		"08 c2/3", "+8 c2/3", "-8 c2/3", "0x8 c2/3", "8.0 c2/3", "8e0 c2/3", "1_0 c2/3", "\uff18 c2/3",
		"0 c2/1", "1 c2/1", "97 c2/1", "256 c2/1", "264 c2/1", "32768 c2/1", "65544 c2/1", "4294967304 c2/1", "99999999999999999999 c2/1",
		"8 c2/0", "8 c2/9", "96 c2/21", "8 c2/-3", "8 c2/+3", "8 c2/03", "8 c2/3.0", "8 c2/", "8 c2/x", "96 c2/128", "96 c2/259", "96 c2/99999999999999999999",
		"8 c2", "8 c23", "8 c2 3", "8 c2:3", "8 c2//3", "8 c2/3/3", "8 /3", "8 /", "8 3/c2", "8 c2/ 3", "8 c2 /3",
		"8 C2/3", "8 h2/3", "8 c4/3", "8 b4/3", "8 c/3", "8 24/3", "8 e#2/3", "8 cb2/3", "8 c##2/3", "8 c02/3", "8 c-1/3",
		"8 c2/3 c2/9", "8 c2/3 h2/3", "8 c2/9 c2/3", "8 c2/3\x00", "\x008 c2/3", "\xff", "8 \xff/3",
	} {
		read, code := impl.ReadFrame(text)
		wantEqual(t, answers(code, read), "syntax; 0 []", "read", text)
	}
}
