package tests

import (
	"fmt"
	"math"
	"slices"
	"strings"
	"testing"

	"loop.example/g01311/impl"
)

// This file has chapter 1's results written out: the document's example, its edges, and its errors.

const example = "0:c2 2:e2 4:g2"

func mustRead(t *testing.T, text string) impl.Tune {
	t.Helper()
	read, code := impl.ReadTune(text)
	wantEqual(t, code, impl.OK, "read", text)
	return read
}

// wantTune asks for a tune with a text; a text in brackets stands for an error, which comes with no tune.
func wantTune(t *testing.T, got impl.Tune, code int64, want string, name ...any) {
	t.Helper()
	text := impl.TuneText(got)
	if code != impl.OK {
		text = "[" + impl.CodeName(code) + "]" + raw(got)
	}
	wantEqual(t, text, want, name...)
}

func TestCodeName(t *testing.T) {
	names := strings.Fields("ok invalid range limit state syntax notfound budget proof")
	codes := []int64{impl.OK, impl.ErrInvalid, impl.ErrRange, impl.ErrLimit, impl.ErrState, impl.ErrSyntax, impl.ErrNotFound, impl.ErrBudget, impl.ErrProof}
	for i, name := range names {
		wantEqual(t, codes[i], int64(i), "code", i)
		wantEqual(t, impl.CodeName(int64(i)), name, "name of", i)
	}
	for _, code := range []int64{-1, 9, 10, 256, 1 << 32, math.MinInt64, math.MaxInt64} {
		wantEqual(t, impl.CodeName(code), "", "name of", code)
	}
}

func TestPitchName(t *testing.T) {
	for pitch, name := range strings.Fields(pitchNames) {
		wantEqual(t, impl.PitchName(int64(pitch)), name, "pitch", pitch)
	}
	for _, pitch := range []int64{-1, -12, 48, 49, 256, 1 << 32, math.MinInt64, math.MaxInt64} {
		wantEqual(t, impl.PitchName(pitch), "", "pitch", pitch)
	}
}

func TestLimits(t *testing.T) {
	wantEqual(t, fmt.Sprint(impl.MaxPitch, impl.MaxAt, impl.MaxNotes), "48 200 120", "limits")
}

func TestExample(t *testing.T) {
	a := mustRead(t, example)
	wantEqual(t, raw(a), "0/24 2/28 4/31", "notes")
	pitches, code := impl.PitchesOf(a)
	wantEqual(t, pitches, 1<<24|1<<28|1<<31, "pitches")
	wantEqual(t, code, impl.OK, "pitches")
	length, code := impl.LengthOf(a)
	wantEqual(t, fmt.Sprint(length, code), "5 0", "length")
	back, code := impl.Backward(a)
	wantTune(t, back, code, "0:g2 2:e2 4:c2", "backward")
	down, code := impl.Inverted(a, 28)
	wantTune(t, down, code, "0:g#2 2:e2 4:c#2", "inverted")
	by, code := impl.TransposeFor(1<<24|1<<25|1<<28|1<<29|1<<32, a)
	wantEqual(t, fmt.Sprint(by, code), "1 0", "transposed for")
	canon, code := impl.CanonOf(a, 2, 2, 12)
	wantTune(t, canon, code, "0:c2 2:e2 2:c3 4:g2 4:e3 6:g3", "canon")
}

func TestValidTune(t *testing.T) {
	for i, a := range validTunes() {
		wantEqual(t, impl.ValidTune(a), true, "valid tune", i, a)
	}
	for i, a := range invalidTunes() {
		wantEqual(t, impl.ValidTune(a), false, "invalid tune", i, a)
	}
	wantEqual(t, impl.ValidTune(notes(0, 0, 0, 1, 1, 0)), true, "a lower pitch later")
	wantEqual(t, impl.ValidTune(row(120, 0, 0, 1, 0)), true, "just enough notes")
	wantEqual(t, impl.ValidTune(row(121, 0, 0, 1, 0)), false, "a note too many")
}

func TestSameTune(t *testing.T) {
	wantEqual(t, impl.SameTune(nil, impl.Tune{}), true, "nil and empty")
	wantEqual(t, impl.SameTune(notes(1, 5), notes(1, 5)), true, "equal")
	wantEqual(t, impl.SameTune(notes(1, 5), notes(1, 6)), false, "pitch")
	wantEqual(t, impl.SameTune(notes(1, 5), notes(2, 5)), false, "at")
	wantEqual(t, impl.SameTune(notes(1, 5), notes(1, 5, 2, 5)), false, "longer")
	wantEqual(t, impl.SameTune(notes(1, 5, 2, 5), notes(1, 5)), false, "shorter")
	wantEqual(t, impl.SameTune(notes(2, 5, 1, 5), notes(1, 5, 2, 5)), false, "another order")
	wantEqual(t, impl.SameTune(notes(-9, 90, -9, 90), notes(-9, 90, -9, 90)), true, "equal ones that are not valid")
	wantEqual(t, impl.SameTune(notes(-9, 90), notes(-9, 90, -9, 90)), false, "one more that is not valid")
}

func TestMakeTune(t *testing.T) {
	full := block(120, 0)
	cases := []struct {
		list []impl.Note
		want string
	}{
		{nil, ""},
		{notes(3, 1, 0, 2, 3, 1), "0:d0 3:c#0"},
		{notes(5, 2, 5, 1, 5, 0), "5:c0 5:c#0 5:d0"},
		{notes(199, 47, 0, 0), "0:c0 199:b3"},
		{row(500, 7, 7, 0, 0), "7:g0"},
		{slices.Concat(full, full, full), impl.TuneText(full)},
		{append(block(120, 0), notes(0, 0)...), impl.TuneText(full)},
		{append(block(120, 0), notes(100, 0)...), "[limit]"},
		{append(block(120, 0), notes(0, 0, 100, 0)...), "[limit]"},
		{append(block(121, 0), notes(200, 0)...), "[range]"},
		{append(block(121, 0), notes(0, 48)...), "[range]"},
		{notes(200, 0), "[range]"},
		{notes(-1, 0), "[range]"},
		{notes(0, 48), "[range]"},
		{notes(0, -1), "[range]"},
		{notes(0, 0, 1, 1, math.MinInt16, math.MinInt8), "[range]"},
	}
	for i, c := range cases {
		made, code := impl.MakeTune(c.list)
		wantTune(t, made, code, c.want, "make", i)
	}
}

func TestBellsOfTunes(t *testing.T) {
	a := notes(0, 0, 1, 47, 2, 0)
	pitches, code := impl.PitchesOf(a)
	wantEqual(t, fmt.Sprint(pitches, code), fmt.Sprint(uint64(1)<<47+1, 0), "pitches")
	pitches, code = impl.PitchesOf(nil)
	wantEqual(t, fmt.Sprint(pitches, code), "0 0", "no pitches")
	cases := []struct {
		bells uint64
		want  string
	}{
		{0, fmt.Sprint(false, 0, uint64(1)<<47+1, 0)},
		{1, fmt.Sprint(false, 0, uint64(1)<<47, 0)},
		{1 << 47, fmt.Sprint(false, 0, 1, 0)},
		{1<<47 | 1, fmt.Sprint(true, 0, 0, 0)},
		{math.MaxUint64, fmt.Sprint(true, 0, 0, 0)},
		{0xffff << 48, fmt.Sprint(false, 0, uint64(1)<<47+1, 0)},
	}
	for _, c := range cases {
		can, one := impl.CanPlay(c.bells, a)
		missing, two := impl.MissingFor(c.bells, a)
		wantEqual(t, fmt.Sprint(can, one, missing, two), c.want, "bells", c.bells)
	}
	can, code := impl.CanPlay(0, nil)
	wantEqual(t, fmt.Sprint(can, code), "true 0", "no bells for no notes")
}

func TestLengthOf(t *testing.T) {
	for text, want := range map[string]string{"": "0 0", "0:c0": "1 0", "199:b3": "200 0", "3:c0 7:c0": "8 0"} {
		length, code := impl.LengthOf(mustRead(t, text))
		wantEqual(t, fmt.Sprint(length, code), want, "length of", text)
	}
}

func TestMoveTune(t *testing.T) {
	cases := []struct {
		text  string
		steps int64
		want  string
	}{
		{example, 3, "3:c2 5:e2 7:g2"},
		{example, 0, example},
		{example, 195, "195:c2 197:e2 199:g2"},
		{example, 196, "[state]"},
		{example, -1, "[state]"},
		{"199:b3", -199, "0:b3"},
		{"199:b3", -200, "[state]"},
		{"0:c0", 199, "199:c0"},
		{"0:c0", 200, "[state]"},
		{"", 200, ""},
		{"", -200, ""},
		{"", 201, "[state]"},
		{"", -201, "[state]"},
		{"", math.MinInt64, "[state]"},
		{"", math.MaxInt64, "[state]"},
		{example, 1 << 16, "[state]"},
		{example, 1 << 32, "[state]"},
	}
	for _, c := range cases {
		moved, code := impl.MoveTune(mustRead(t, c.text), c.steps)
		wantTune(t, moved, code, c.want, "move", c.text, c.steps)
	}
}

func TestTranspose(t *testing.T) {
	cases := []struct {
		text string
		by   int64
		want string
	}{
		{example, 12, "0:c3 2:e3 4:g3"},
		{example, -24, "0:c0 2:e0 4:g0"},
		{example, 16, "0:e3 2:g#3 4:b3"},
		{example, 17, "[state]"},
		{example, -25, "[state]"},
		{"0:c0", 47, "0:b3"},
		{"0:c0", 48, "[state]"},
		{"0:b3", -47, "0:c0"},
		{"", 48, ""},
		{"", -48, ""},
		{"", 49, "[state]"},
		{"", -49, "[state]"},
		{"", math.MinInt64, "[state]"},
		{"", math.MaxInt64, "[state]"},
		{example, 256, "[state]"},
	}
	for _, c := range cases {
		high, code := impl.Transpose(mustRead(t, c.text), c.by)
		wantTune(t, high, code, c.want, "transpose", c.text, c.by)
	}
}

func TestTransposeFor(t *testing.T) {
	a := notes(0, 24, 2, 28, 4, 31)
	set := uint64(1<<24 | 1<<28 | 1<<31)
	cases := []struct {
		name  string
		bells uint64
		tune  impl.Tune
		want  string
	}{
		{"as it is", set | set<<1 | set>>1, a, "0 0"},
		{"of two the greater", set<<2 | set>>2, a, "2 0"},
		{"the lesser alone", set >> 2, a, "-2 0"},
		{"the nearer one", set<<3 | set>>2, a, "-2 0"},
		{"the nearer one above", set<<2 | set>>3, a, "2 0"},
		{"the highest", set << 16, a, "16 0"},
		{"too high", set << 17, a, "0 6"},
		{"the lowest", set >> 24, a, "-24 0"},
		{"too low", set >> 25, a, "0 6"},
		{"from one end to the other", 1 << 47, notes(0, 0), "47 0"},
		{"and back", 1, notes(0, 47), "-47 0"},
		{"bells that no pitch has", 0xffff << 48, a, "0 6"},
		{"a bell beside the last pitch", 1 << 48, notes(0, 47), "0 6"},
		{"no bells", 0, a, "0 6"},
		{"no bells for no notes", 0, nil, "0 0"},
	}
	for _, c := range cases {
		by, code := impl.TransposeFor(c.bells, c.tune)
		wantEqual(t, fmt.Sprint(by, code), c.want, c.name)
	}
}

func TestBackward(t *testing.T) {
	for text, want := range map[string]string{
		"":               "",
		"7:c0":           "0:c0",
		"199:c0":         "0:c0",
		"3:c2 5:e2 8:g2": "0:g2 3:e2 5:c2",
		"0:c2 0:e2 4:g2": "0:g2 4:c2 4:e2",
		"0:c0 199:b3":    "0:b3 199:c0",
		"2:a1 2:b1":      "0:a1 0:b1",
	} {
		back, code := impl.Backward(mustRead(t, text))
		wantTune(t, back, code, want, "backward", text)
	}
}

func TestInverted(t *testing.T) {
	cases := []struct {
		text   string
		around int64
		want   string
	}{
		{"0:c2 0:e2 4:g2", 28, "0:e2 0:g#2 4:c#2"},
		{"0:c0", 0, "0:c0"},
		{"0:c0", 23, "0:a#3"},
		{"0:c#0", 24, "0:b3"},
		{"0:c0", 24, "[state]"},
		{"0:c#0", 0, "[state]"},
		{"0:b3", 47, "0:b3"},
		{"0:b3", 24, "0:c#0"},
		{"0:b3", 23, "[state]"},
		{"", 0, ""},
		{"", 47, ""},
		{"", -1, "[state]"},
		{"", 48, "[state]"},
		{"", math.MinInt64, "[state]"},
		{"0:c0", math.MinInt64, "[state]"},
		{"0:c0", math.MaxInt64, "[state]"},
	}
	for _, c := range cases {
		down, code := impl.Inverted(mustRead(t, c.text), c.around)
		wantTune(t, down, code, c.want, "invert", c.text, c.around)
	}
}

func TestStretched(t *testing.T) {
	cases := []struct {
		text     string
		num, den int64
		want     string
	}{
		{example, 3, 2, "0:c2 3:e2 6:g2"},
		{example, 1, 2, "0:c2 1:e2 2:g2"},
		{example, 1, 4, "[state]"},
		{example, 100, 100, example},
		{example, 49, 1, "0:c2 98:e2 196:g2"},
		{example, 50, 1, "[state]"},
		{"100:c0", 99, 50, "198:c0"},
		{"100:c0", 100, 50, "[state]"},
		{"199:c0", 100, 100, "199:c0"},
		{"199:c0", 100, 99, "[state]"},
		{"0:c0", 100, 99, "0:c0"},
		{"100:c0", 1, 100, "1:c0"},
		{"0:c0", 1, 1, "0:c0"},
		{"", 101, 1, "[range]"},
		{"", 1, 101, "[range]"},
		{"", 0, 1, "[range]"},
		{"", 1, 0, "[range]"},
		{"1:c0", 1, 0, "[range]"},
		{"1:c0", -1, -1, "[range]"},
		{"1:c0", math.MinInt64, -1, "[range]"},
		{"1:c0", math.MaxInt64, math.MaxInt64, "[range]"},
	}
	for _, c := range cases {
		wide, code := impl.Stretched(mustRead(t, c.text), c.num, c.den)
		wantTune(t, wide, code, c.want, "stretch", c.text, c.num, c.den)
	}
}

func TestJoinTunes(t *testing.T) {
	for _, c := range [][3]string{
		{"", "", ""},
		{example, "", example},
		{"", "3:c0", "3:c0"},
		{example, "0:c0 1:c0", example + " 5:c0 6:c0"},
		{"199:c0", "", "199:c0"},
		{"199:c0", "0:c0", "[limit]"},
		{"99:c0", "99:c0", "99:c0 199:c0"},
		{"99:c0", "100:c0", "[limit]"},
		{"100:c0", "99:c0", "[limit]"},
	} {
		join, code := impl.JoinTunes(mustRead(t, c[0]), mustRead(t, c[1]))
		wantTune(t, join, code, c[2], "join", c[0], c[1])
	}
	join, code := impl.JoinTunes(row(60, 0, 0, 1, 0), row(60, 0, 0, 1, 0))
	wantEqual(t, answer(join, code), answer(row(120, 0, 0, 1, 0), impl.OK), "just enough notes")
	join, code = impl.JoinTunes(block(60, 0), block(61, 0))
	wantTune(t, join, code, "[limit]", "a note too many")
}

func TestTogether(t *testing.T) {
	for _, c := range [][3]string{
		{"", "", ""},
		{example, "", example},
		{"", example, example},
		{example, example, example},
		{example, "0:b1 2:e2 199:c0", "0:b1 0:c2 2:e2 4:g2 199:c0"},
	} {
		both, code := impl.Together(mustRead(t, c[0]), mustRead(t, c[1]))
		wantTune(t, both, code, c[2], "together", c[0], c[1])
	}
	both, code := impl.Together(block(120, 0), block(119, 0))
	wantEqual(t, answer(both, code), answer(block(120, 0), impl.OK), "just enough notes")
	both, code = impl.Together(block(120, 0), notes(100, 0))
	wantTune(t, both, code, "[limit]", "a note too many")
}

func TestCutTune(t *testing.T) {
	cases := []struct {
		text     string
		from, to int64
		want     string
	}{
		{example, 1, 4, "1:e2"},
		{example, 2, 4, "0:e2"},
		{example, 2, 5, "0:e2 2:g2"},
		{example, 0, 200, example},
		{example, 0, 0, ""},
		{example, 2, 2, ""},
		{example, 200, 200, ""},
		{"199:c0", 199, 200, "0:c0"},
		{"199:c0", 0, 199, ""},
		{"1:c0 1:d0 2:c0 2:d0 3:c0 3:d0", 2, 3, "0:c0 0:d0"},
		{"", 0, 200, ""},
		{"", 0, 201, "[range]"},
		{"", 201, 201, "[range]"},
		{"", -1, 5, "[range]"},
		{"", -2, -1, "[range]"},
		{"", 3, 2, "[range]"},
		{example, math.MinInt64, math.MaxInt64, "[range]"},
		{example, math.MaxInt64, math.MinInt64, "[range]"},
	}
	for _, c := range cases {
		cut, code := impl.CutTune(mustRead(t, c.text), c.from, c.to)
		wantTune(t, cut, code, c.want, "cut", c.text, c.from, c.to)
	}
}

func TestCanonOf(t *testing.T) {
	cases := []struct {
		text              string
		voices, delay, by int64
		want              string
	}{
		{example, 1, 0, 0, example},
		{example, 1, 200, 48, example},
		{example, 8, 0, 0, example},
		{example, 3, 4, 0, "0:c2 2:e2 4:c2 4:g2 6:e2 8:c2 8:g2 10:e2 12:g2"},
		{"3:b3", 3, 0, -1, "3:a3 3:a#3 3:b3"},
		{"0:c0 2:c0", 2, 2, 0, "0:c0 2:c0 4:c0"},
		{"0:c0", 8, 28, 6, "0:c0 28:f#0 56:c1 84:f#1 112:c2 140:f#2 168:c3 196:f#3"},
		{"0:c0", 8, 29, 0, "[limit]"},
		{"0:c0", 8, 0, 7, "[limit]"},
		{"0:c0", 2, 199, 47, "0:c0 199:b3"},
		{"0:c0", 2, 200, 0, "[limit]"},
		{"0:c0", 2, 0, 48, "[limit]"},
		{"0:b3", 2, 0, -48, "[limit]"},
		{"", 8, 200, 48, ""},
		{"", 8, 200, -48, ""},
		{"", 0, 0, 0, "[range]"},
		{"", 9, 0, 0, "[range]"},
		{"", 1, -1, 0, "[range]"},
		{"", 1, 201, 0, "[range]"},
		{"", 1, 0, 49, "[range]"},
		{"", 1, 0, -49, "[range]"},
		{example, 9, 200, 48, "[range]"},
		{example, math.MaxInt64, 0, 0, "[range]"},
		{example, 2, math.MinInt64, 0, "[range]"},
		{example, 2, 0, math.MinInt64, "[range]"},
	}
	for _, c := range cases {
		canon, code := impl.CanonOf(mustRead(t, c.text), c.voices, c.delay, c.by)
		wantTune(t, canon, code, c.want, "canon", c.text, c.voices, c.delay, c.by)
	}
	canon, code := impl.CanonOf(row(60, 0, 0, 1, 0), 2, 60, 0)
	wantEqual(t, answer(canon, code), answer(row(120, 0, 0, 1, 0), impl.OK), "just enough notes")
	canon, code = impl.CanonOf(row(61, 0, 0, 1, 0), 2, 61, 0)
	wantTune(t, canon, code, "[limit]", "too many notes")
}

func TestLeastGap(t *testing.T) {
	for text, want := range map[string]string{
		"":                              "0 0 6",
		"5:c0":                          "0 0 6",
		"0:c0 0:d0 9:e0":                "0 0 6",
		"0:c0 199:c0":                   "199 0 0",
		"0:b3 1:b3":                     "1 47 0",
		"0:c2 5:c2 8:c2":                "3 24 0",
		"0:c2 3:c2 8:c2":                "3 24 0",
		"0:d0 1:c0 2:d0 3:c0":           "2 0 0",
		"0:c0 1:d0 2:c0 3:d0":           "2 0 0",
		"0:d0 1:e0 3:d0 3:e0 9:c0":      "2 4 0",
		"0:e0 1:d0 2:e0":                "2 4 0",
		"0:c0 10:c0 20:d0 25:d0 30:c#0": "5 2 0",
	} {
		gap, pitch, code := impl.LeastGap(mustRead(t, text))
		wantEqual(t, fmt.Sprint(gap, pitch, code), want, "gap of", text)
	}
}

func TestLoudestStep(t *testing.T) {
	for text, want := range map[string]string{
		"":                              "0 0 6",
		"7:c0":                          "7 1 0",
		"199:c0 199:d0":                 "199 2 0",
		"0:c0 3:c0 3:d0 5:e0 5:f0 9:c0": "3 2 0",
		"0:c0 3:c0 3:d0 5:e0 5:f0 5:g0": "5 3 0",
		"4:c0 5:c0":                     "4 1 0",
	} {
		at, count, code := impl.LoudestStep(mustRead(t, text))
		wantEqual(t, fmt.Sprint(at, count, code), want, "loudest step of", text)
	}
}

func TestComparisons(t *testing.T) {
	cases := []struct{ a, b, common, shift string }{
		{"", "", "0 0", "0 0 0"},
		{example, "", "0 0", "0 0 0"},
		{"", example, "0 0", "0 0 0"},
		{example, example, "3 0", "0 3 0"},
		{example, "0:g2 2:e2 4:c2", "1 0", "0 1 0"},
		{"3:c2 5:e2 7:g2", example, "0 0", "3 3 0"},
		{example, "3:c2 5:e2 7:g2", "0 0", "-3 3 0"},
		{"0:c0 4:c0", "2:c0", "0 0", "2 1 0"},
		{"0:c0 5:c0", "2:c0", "0 0", "-2 1 0"},
		{"0:c0 0:d0 9:c0", "5:c0 5:d0", "0 0", "-5 2 0"},
		{"199:c0", "0:c0", "0 0", "199 1 0"},
		{"0:c0", "199:c0", "0 0", "-199 1 0"},
		{"0:c0", "0:d0", "0 0", "0 0 0"},
		{"0:c0 10:d0", "0:d0 10:c0", "0 0", "10 1 0"},
	}
	for _, c := range cases {
		a, b := mustRead(t, c.a), mustRead(t, c.b)
		common, one := impl.CommonNotes(a, b)
		wantEqual(t, fmt.Sprint(common, one), c.common, "common", c.a, "and", c.b)
		shift, most, two := impl.BestShift(a, b)
		wantEqual(t, fmt.Sprint(shift, most, two), c.shift, "shift", c.a, "and", c.b)
	}
}

func TestTexts(t *testing.T) {
	for i, a := range validTunes() {
		read, code := impl.ReadTune(impl.TuneText(a))
		wantEqual(t, answer(read, code), answer(a, impl.OK), "text", i)
	}
	for i, a := range invalidTunes() {
		wantEqual(t, impl.TuneText(a), "", "text of what is no tune", i)
	}
	wantEqual(t, impl.TuneText(notes(0, 0, 0, 1, 199, 47)), "0:c0 0:c#0 199:b3", "text")
}

func TestNoTexts(t *testing.T) {
	var long []string
	for i := range 121 {
		long = append(long, fmt.Sprint(i, ":c0"))
	}
	wantEqual(t, len(mustRead(t, strings.Join(long[:120], " "))), 120, "just enough notes")
	for _, text := range []string{
		strings.Join(long, " "), strings.Join(long, " ") + " x",
		" ", "  ", "\n", " 0:c2", "0:c2 ", "0:c2  1:c2", "0:c2\t1:c2", "0:c2\n", "0:c2,1:c2", "0:c21:c2",
		"0", ":", "0:", ":c2", "c2", "0c2", "0::c2", "0:c2:", "0:c2:3", "c2:0", "0 :c2", "0: c2",
		"00:c2", "01:c2", "+0:c2", "-0:c2", "+1:c2", "-1:c2", "0x1:c2", "1_0:c2", "1e1:c2", "1.0:c2", "\uff10:c2",
		"200:c2", "256:c2", "32768:c2", "65536:c2", "4294967296:c2", "99999999999999999999:c2",
		"0:h2", "0:C2", "0:c", "0:2", "0:c4", "0:b4", "0:c-1", "0:c02", "0:c22", "0:e#2", "0:b#2", "0:cb2", "0:c##2", "0:#2", "0:24",
		"0:c2 0:c2", "1:c2 0:c2", "0:d2 0:c2", "0:c2 1:h2", "0:h2 1:c2", "0:c2 1", "0:c2\x00", "\x000:c2", "\xff",
	} {
		read, code := impl.ReadTune(text)
		wantTune(t, read, code, "[syntax]", "read", text)
	}
}
