package tests

import (
	"fmt"
	"slices"
	"sort"
	"strconv"
	"strings"
	"testing"

	"loop.example/g01311/impl"
)

// This file tells chapter 1 once more, in the plainest way, and holds the program against it.

type spot struct{ at, pitch int64 }

func (s spot) behind(other spot) bool {
	return s.at > other.at || s.at == other.at && s.pitch > other.pitch
}

func (s spot) exists() bool {
	return s.at >= 0 && s.at <= 199 && s.pitch >= 0 && s.pitch <= 47
}

func spotsOf(t impl.Tune) []spot {
	var out []spot
	for _, n := range t {
		out = append(out, spot{int64(n.At), int64(n.Pitch)})
	}
	return out
}

func modelValid(t impl.Tune) bool {
	if len(t) > 120 {
		return false
	}
	spots := spotsOf(t)
	for i, s := range spots {
		if !s.exists() || i > 0 && !s.behind(spots[i-1]) {
			return false
		}
	}
	return true
}

// modelTune returns the tune of some spots, equal ones being made one, or a code if there is none.
func modelTune(spots []spot, code int64) string {
	set := map[spot]bool{}
	for _, s := range spots {
		if !s.exists() {
			return answer(nil, code)
		}
		set[s] = true
	}
	if len(set) > 120 {
		return answer(nil, code)
	}
	var out impl.Tune
	for s := range set {
		out = append(out, impl.Note{At: int16(s.at), Pitch: int8(s.pitch)})
	}
	sort.Slice(out, func(i, j int) bool { return spotsOf(out[j : j+1])[0].behind(spotsOf(out[i : i+1])[0]) })
	return answer(out, impl.OK)
}

func answer(t impl.Tune, code int64) string { return fmt.Sprint(raw(t), " ", code) }

func modelPlaced(t impl.Tune, code int64, place func(s spot) spot) string {
	var out []spot
	for _, s := range spotsOf(t) {
		out = append(out, place(s))
	}
	return modelTune(out, code)
}

func modelMove(t impl.Tune, steps int64) string {
	if !modelValid(t) {
		return answer(nil, impl.ErrInvalid)
	}
	if steps < -200 || steps > 200 {
		return answer(nil, impl.ErrState)
	}
	return modelPlaced(t, impl.ErrState, func(s spot) spot { return spot{s.at + steps, s.pitch} })
}

func modelTranspose(t impl.Tune, by int64) string {
	if !modelValid(t) {
		return answer(nil, impl.ErrInvalid)
	}
	if by < -48 || by > 48 {
		return answer(nil, impl.ErrState)
	}
	return modelPlaced(t, impl.ErrState, func(s spot) spot { return spot{s.at, s.pitch + by} })
}

func modelInverted(t impl.Tune, around int64) string {
	if !modelValid(t) {
		return answer(nil, impl.ErrInvalid)
	}
	if around < 0 || around > 47 {
		return answer(nil, impl.ErrState)
	}
	return modelPlaced(t, impl.ErrState, func(s spot) spot { return spot{s.at, 2*around - s.pitch} })
}

func modelLength(t impl.Tune) int64 {
	var length int64
	for _, s := range spotsOf(t) {
		length = max(length, s.at+1)
	}
	return length
}

func modelBackward(t impl.Tune) string {
	if !modelValid(t) {
		return answer(nil, impl.ErrInvalid)
	}
	length := modelLength(t)
	return modelPlaced(t, impl.ErrState, func(s spot) spot { return spot{length - 1 - s.at, s.pitch} })
}

func modelStretched(t impl.Tune, num, den int64) string {
	if !modelValid(t) {
		return answer(nil, impl.ErrInvalid)
	}
	if num < 1 || num > 100 || den < 1 || den > 100 {
		return answer(nil, impl.ErrRange)
	}
	for _, s := range spotsOf(t) {
		if (s.at*num/den)*den != s.at*num {
			return answer(nil, impl.ErrState)
		}
	}
	return modelPlaced(t, impl.ErrState, func(s spot) spot { return spot{s.at * num / den, s.pitch} })
}

func modelJoin(a, b impl.Tune) string {
	if !modelValid(a) || !modelValid(b) {
		return answer(nil, impl.ErrInvalid)
	}
	all := spotsOf(a)
	for _, s := range spotsOf(b) {
		all = append(all, spot{s.at + modelLength(a), s.pitch})
	}
	return modelTune(all, impl.ErrLimit)
}

func modelTogether(a, b impl.Tune) string {
	if !modelValid(a) || !modelValid(b) {
		return answer(nil, impl.ErrInvalid)
	}
	return modelTune(append(spotsOf(a), spotsOf(b)...), impl.ErrLimit)
}

func modelCut(t impl.Tune, from, to int64) string {
	if !modelValid(t) {
		return answer(nil, impl.ErrInvalid)
	}
	if from < 0 || from > 200 || to < 0 || to > 200 || from > to {
		return answer(nil, impl.ErrRange)
	}
	var out []spot
	for _, s := range spotsOf(t) {
		if s.at >= from && s.at < to {
			out = append(out, spot{s.at - from, s.pitch})
		}
	}
	return modelTune(out, impl.ErrState)
}

func modelCanon(t impl.Tune, voices, delay, by int64) string {
	if !modelValid(t) {
		return answer(nil, impl.ErrInvalid)
	}
	if voices < 1 || voices > 8 || delay < 0 || delay > 200 || by < -48 || by > 48 {
		return answer(nil, impl.ErrRange)
	}
	var out []spot
	for v := range voices {
		for _, s := range spotsOf(t) {
			out = append(out, spot{s.at + v*delay, s.pitch + v*by})
		}
	}
	return modelTune(out, impl.ErrLimit)
}

func modelPitches(t impl.Tune) uint64 {
	var set uint64
	for p := range uint64(48) {
		for _, s := range spotsOf(t) {
			if uint64(s.pitch) == p {
				set |= 1 << p
			}
		}
	}
	return set
}

func modelGap(t impl.Tune) string {
	if !modelValid(t) {
		return fmt.Sprint(0, 0, impl.ErrInvalid)
	}
	var gaps []spot
	for _, x := range spotsOf(t) {
		for _, y := range spotsOf(t) {
			if x.pitch == y.pitch && x.at < y.at {
				gaps = append(gaps, spot{y.at - x.at, x.pitch})
			}
		}
	}
	if len(gaps) == 0 {
		return fmt.Sprint(0, 0, impl.ErrNotFound)
	}
	sort.Slice(gaps, func(i, j int) bool { return gaps[j].behind(gaps[i]) })
	return fmt.Sprint(gaps[0].at, gaps[0].pitch, impl.OK)
}

func modelLoudest(t impl.Tune) string {
	if !modelValid(t) {
		return fmt.Sprint(0, 0, impl.ErrInvalid)
	}
	if len(t) == 0 {
		return fmt.Sprint(0, 0, impl.ErrNotFound)
	}
	best, most := 0, 0
	for at := 199; at >= 0; at-- {
		count := 0
		for _, s := range spotsOf(t) {
			if s.at == int64(at) {
				count++
			}
		}
		if count >= most {
			best, most = at, count
		}
	}
	return fmt.Sprint(best, most, impl.OK)
}

func modelSet(t impl.Tune) map[spot]bool {
	set := map[spot]bool{}
	for _, s := range spotsOf(t) {
		set[s] = true
	}
	return set
}

func modelCommon(in map[spot]bool, b []spot, shift int64) int64 {
	var count int64
	for _, y := range b {
		if in[spot{y.at + shift, y.pitch}] {
			count++
		}
	}
	return count
}

func modelShift(a, b impl.Tune) string {
	if !modelValid(a) || !modelValid(b) {
		return fmt.Sprint(0, 0, impl.ErrInvalid)
	}
	in, spots := modelSet(a), spotsOf(b)
	best, most := int64(0), int64(-1)
	for shift := int64(-200); shift <= 200; shift++ {
		count := modelCommon(in, spots, shift)
		size, least := max(shift, -shift), max(best, -best)
		if count > most || count == most && (size < least || size == least && shift > best) {
			best, most = shift, count
		}
	}
	return fmt.Sprint(best, most, impl.OK)
}

// modelFor tells whether a tune can be transposed by a number, and be played then.
func modelFor(bells uint64, t impl.Tune, by int64) bool {
	for _, s := range spotsOf(t) {
		p := s.pitch + by
		if p < 0 || p > 47 || bells>>uint(p)&1 == 0 {
			return false
		}
	}
	return true
}

func modelTransposeFor(bells uint64, t impl.Tune) string {
	if !modelValid(t) {
		return fmt.Sprint(0, impl.ErrInvalid)
	}
	for size := range int64(49) {
		if modelFor(bells, t, size) {
			return fmt.Sprint(size, impl.OK)
		}
		if modelFor(bells, t, -size) {
			return fmt.Sprint(-size, impl.OK)
		}
	}
	return fmt.Sprint(0, impl.ErrNotFound)
}

// The names of all pitches, as the document tells them.
const pitchNames = "c0 c#0 d0 d#0 e0 f0 f#0 g0 g#0 a0 a#0 b0 c1 c#1 d1 d#1 e1 f1 f#1 g1 g#1 a1 a#1 b1 " +
	"c2 c#2 d2 d#2 e2 f2 f#2 g2 g#2 a2 a#2 b2 c3 c#3 d3 d#3 e3 f3 f#3 g3 g#3 a3 a#3 b3"

func modelText(t impl.Tune) string {
	if !modelValid(t) {
		return ""
	}
	names := strings.Fields(pitchNames)
	var parts []string
	for _, s := range spotsOf(t) {
		parts = append(parts, fmt.Sprint(s.at, ":", names[s.pitch]))
	}
	return strings.Join(parts, " ")
}

// modelRead looks each part up among all texts of notes, and asks for an ascending list.
func modelRead(text string, lookup map[string]spot) string {
	if text == "" {
		return answer(nil, impl.OK)
	}
	var spots []spot
	for _, part := range strings.Split(text, " ") {
		s, ok := lookup[part]
		if !ok || len(spots) > 0 && !s.behind(spots[len(spots)-1]) {
			return answer(nil, impl.ErrSyntax)
		}
		spots = append(spots, s)
	}
	return modelTune(spots, impl.ErrSyntax)
}

func noteTexts() map[string]spot {
	lookup := map[string]spot{}
	for at := range int64(200) {
		for pitch, name := range strings.Fields(pitchNames) {
			lookup[fmt.Sprint(at, ":", name)] = spot{at, int64(pitch)}
		}
	}
	return lookup
}

func TestModelOneTune(t *testing.T) {
	for i, a := range allTunes() {
		wantEqual(t, impl.ValidTune(a), modelValid(a), "valid", i, a)
		wantEqual(t, impl.TuneText(a), modelText(a), "text", i, a)
		back, code := impl.Backward(a)
		wantEqual(t, answer(back, code), modelBackward(a), "backward", i, a)
		gap, pitch, code := impl.LeastGap(a)
		wantEqual(t, fmt.Sprint(gap, pitch, code), modelGap(a), "gap", i, a)
		at, count, code := impl.LoudestStep(a)
		wantEqual(t, fmt.Sprint(at, count, code), modelLoudest(a), "loudest", i, a)
		length, one := impl.LengthOf(a)
		pitches, two := impl.PitchesOf(a)
		want := fmt.Sprint(modelLength(a), impl.OK, modelPitches(a), impl.OK)
		if !modelValid(a) {
			want = fmt.Sprint(0, impl.ErrInvalid, 0, impl.ErrInvalid)
		}
		wantEqual(t, fmt.Sprint(length, one, pitches, two), want, "length and pitches", i, a)
	}
}

func TestModelMakeTune(t *testing.T) {
	for i, a := range allTunes() {
		backward := slices.Clone(a)
		slices.Reverse(backward)
		list := slices.Concat(a, backward, a)
		code := int64(impl.ErrLimit)
		for _, s := range spotsOf(a) {
			if !s.exists() {
				code = impl.ErrRange
			}
		}
		for _, l := range []impl.Tune{a, backward, list} {
			made, got := impl.MakeTune(l)
			wantEqual(t, answer(made, got), modelTune(spotsOf(l), code), "make", i, l)
		}
	}
}

func TestModelNumbers(t *testing.T) {
	for i, a := range allTunes() {
		for _, n := range farNumbers {
			moved, code := impl.MoveTune(a, n)
			wantEqual(t, answer(moved, code), modelMove(a, n), "move", i, a, n)
			high, code := impl.Transpose(a, n)
			wantEqual(t, answer(high, code), modelTranspose(a, n), "transpose", i, a, n)
			down, code := impl.Inverted(a, n)
			wantEqual(t, answer(down, code), modelInverted(a, n), "invert", i, a, n)
		}
	}
}

func TestModelPairsOfNumbers(t *testing.T) {
	for i, a := range allTunes() {
		for _, n := range farNumbers {
			for _, m := range farNumbers {
				wide, code := impl.Stretched(a, n, m)
				wantEqual(t, answer(wide, code), modelStretched(a, n, m), "stretch", i, a, n, m)
				cut, code := impl.CutTune(a, n, m)
				wantEqual(t, answer(cut, code), modelCut(a, n, m), "cut", i, a, n, m)
			}
		}
	}
}

func TestModelCanon(t *testing.T) {
	delays := []int64{0, 1, 2, 7, 28, 199, 200, 201, -1, 1 << 16}
	steps := []int64{0, 1, -1, 5, -7, 12, 24, 47, -47, 48, -48, 49, -49, 256}
	for i, a := range allTunes() {
		for _, voices := range []int64{1, 2, 3, 7, 8, 9, 0, 256 + 1} {
			for _, delay := range delays {
				for _, by := range steps {
					canon, code := impl.CanonOf(a, voices, delay, by)
					wantEqual(t, answer(canon, code), modelCanon(a, voices, delay, by), "canon", i, a, voices, delay, by)
				}
			}
		}
		for _, n := range farNumbers {
			one, code := impl.CanonOf(a, n, 1, 0)
			wantEqual(t, answer(one, code), modelCanon(a, n, 1, 0), "voices", i, a, n)
			two, code := impl.CanonOf(a, 2, n, 0)
			wantEqual(t, answer(two, code), modelCanon(a, 2, n, 0), "delay", i, a, n)
			three, code := impl.CanonOf(a, 2, 0, n)
			wantEqual(t, answer(three, code), modelCanon(a, 2, 0, n), "by", i, a, n)
		}
	}
}

func TestModelTwoTunes(t *testing.T) {
	list := allTunes()
	for i, a := range list {
		for j, b := range list {
			wantEqual(t, impl.SameTune(a, b), raw(a) == raw(b), "same", i, j)
			join, code := impl.JoinTunes(a, b)
			wantEqual(t, answer(join, code), modelJoin(a, b), "join", i, j)
			both, code := impl.Together(a, b)
			wantEqual(t, answer(both, code), modelTogether(a, b), "together", i, j)
			common, code := impl.CommonNotes(a, b)
			want := fmt.Sprint(0, impl.ErrInvalid)
			if modelValid(a) && modelValid(b) {
				want = fmt.Sprint(modelCommon(modelSet(a), spotsOf(b), 0), impl.OK)
			}
			wantEqual(t, fmt.Sprint(common, code), want, "common", i, j)
			shift, most, code := impl.BestShift(a, b)
			wantEqual(t, fmt.Sprint(shift, most, code), modelShift(a, b), "shift", i, j)
		}
	}
}

func TestModelBells(t *testing.T) {
	for i, a := range allTunes() {
		for _, bells := range bellSets() {
			can, one := impl.CanPlay(bells, a)
			missing, two := impl.MissingFor(bells, a)
			want := fmt.Sprint(false, impl.ErrInvalid, 0, impl.ErrInvalid)
			if modelValid(a) {
				without := modelPitches(a) - modelPitches(a)&bells
				want = fmt.Sprint(without == 0, impl.OK, without, impl.OK)
			}
			wantEqual(t, fmt.Sprint(can, one, missing, two), want, "bells", i, a, bells)
			by, code := impl.TransposeFor(bells, a)
			wantEqual(t, fmt.Sprint(by, code), modelTransposeFor(bells, a), "transposed", i, a, bells)
		}
	}
}

func TestModelTexts(t *testing.T) {
	lookup := noteTexts()
	for text := range lookup {
		read, code := impl.ReadTune(text)
		wantEqual(t, answer(read, code), modelRead(text, lookup), text)
	}
	for _, a := range allTunes() {
		text := modelText(a)
		read, code := impl.ReadTune(text)
		wantEqual(t, answer(read, code), modelRead(text, lookup), text)
		if len(text) > 60 {
			continue
		}
		for _, near := range nearTexts(text) {
			read, code := impl.ReadTune(near)
			wantEqual(t, answer(read, code), modelRead(near, lookup), strconv.Quote(near))
		}
	}
}

// nearTexts returns texts that differ from one in a byte, or in two bytes that have changed places.
func nearTexts(text string) []string {
	var out []string
	for i := 0; i <= len(text); i++ {
		for _, c := range " :0129-+#abcgh348\n\t\x00\xff_x." {
			out = append(out, text[:i]+string(c)+text[i:])
			if i < len(text) {
				out = append(out, text[:i]+string(c)+text[i+1:])
			}
		}
		if i < len(text) {
			out = append(out, text[:i]+text[i+1:])
		}
		if i+1 < len(text) {
			out = append(out, text[:i]+text[i+1:i+2]+text[i:i+1]+text[i+2:])
		}
	}
	return out
}
