package tests

import (
	"fmt"
	"math"
	"slices"
	"strings"
	"testing"

	"loop.example/g01311/impl"
)

// tuneCall is a function of chapter 1 with its numbers set; it returns all results as a text, and those that are slices.
type tuneCall struct {
	name string
	run  func(a, b impl.Tune) (string, impl.Tune)
}

func tuneResult(t impl.Tune, code int64) (string, impl.Tune) { return answer(t, code), t }

func plainResult(list ...any) (string, impl.Tune) { return fmt.Sprint(list...), nil }

// tuneCalls has each function of chapter 1 that takes a tune; bells and numbers are those that a test sets.
func tuneCalls(bells uint64, n, m, k int64) []tuneCall {
	return []tuneCall{
		{"ValidTune", func(a, b impl.Tune) (string, impl.Tune) { return plainResult(impl.ValidTune(a)) }},
		{"SameTune", func(a, b impl.Tune) (string, impl.Tune) { return plainResult(impl.SameTune(a, b)) }},
		{"MakeTune", func(a, b impl.Tune) (string, impl.Tune) { return tuneResult(impl.MakeTune(a)) }},
		{"PitchesOf", func(a, b impl.Tune) (string, impl.Tune) { x, c := impl.PitchesOf(a); return plainResult(x, c) }},
		{"LengthOf", func(a, b impl.Tune) (string, impl.Tune) { x, c := impl.LengthOf(a); return plainResult(x, c) }},
		{"CanPlay", func(a, b impl.Tune) (string, impl.Tune) { x, c := impl.CanPlay(bells, a); return plainResult(x, c) }},
		{"MissingFor", func(a, b impl.Tune) (string, impl.Tune) { x, c := impl.MissingFor(bells, a); return plainResult(x, c) }},
		{"MoveTune", func(a, b impl.Tune) (string, impl.Tune) { return tuneResult(impl.MoveTune(a, n)) }},
		{"Transpose", func(a, b impl.Tune) (string, impl.Tune) { return tuneResult(impl.Transpose(a, n)) }},
		{"TransposeFor", func(a, b impl.Tune) (string, impl.Tune) {
			x, c := impl.TransposeFor(bells, a)
			return plainResult(x, c)
		}},
		{"Backward", func(a, b impl.Tune) (string, impl.Tune) { return tuneResult(impl.Backward(a)) }},
		{"Inverted", func(a, b impl.Tune) (string, impl.Tune) { return tuneResult(impl.Inverted(a, n)) }},
		{"Stretched", func(a, b impl.Tune) (string, impl.Tune) { return tuneResult(impl.Stretched(a, n, m)) }},
		{"JoinTunes", func(a, b impl.Tune) (string, impl.Tune) { return tuneResult(impl.JoinTunes(a, b)) }},
		{"Together", func(a, b impl.Tune) (string, impl.Tune) { return tuneResult(impl.Together(a, b)) }},
		{"CutTune", func(a, b impl.Tune) (string, impl.Tune) { return tuneResult(impl.CutTune(a, n, m)) }},
		{"CanonOf", func(a, b impl.Tune) (string, impl.Tune) { return tuneResult(impl.CanonOf(a, n, m, k)) }},
		{"LeastGap", func(a, b impl.Tune) (string, impl.Tune) { x, y, c := impl.LeastGap(a); return plainResult(x, y, c) }},
		{"LoudestStep", func(a, b impl.Tune) (string, impl.Tune) { x, y, c := impl.LoudestStep(a); return plainResult(x, y, c) }},
		{"CommonNotes", func(a, b impl.Tune) (string, impl.Tune) { x, c := impl.CommonNotes(a, b); return plainResult(x, c) }},
		{"BestShift", func(a, b impl.Tune) (string, impl.Tune) { x, y, c := impl.BestShift(a, b); return plainResult(x, y, c) }},
		{"TuneText", func(a, b impl.Tune) (string, impl.Tune) { return impl.TuneText(a), nil }},
		{"ReadTune", func(a, b impl.Tune) (string, impl.Tune) { return tuneResult(impl.ReadTune(impl.TuneText(a))) }},
	}
}

// withSpare returns a copy of a tune with spare capacity behind it, and all of its memory.
func withSpare(t impl.Tune) (impl.Tune, impl.Tune) {
	whole := make(impl.Tune, len(t)+9)
	copy(whole, t)
	for i := len(t); i < len(whole); i++ {
		whole[i] = impl.Note{At: int16(-i), Pitch: -9}
	}
	return whole[:len(t)], whole
}

// scribble writes over a result and all its capacity, as its owner may.
func scribble(t impl.Tune) {
	t = t[:cap(t)]
	for i := range t {
		t[i] = impl.Note{At: 77, Pitch: 77}
	}
}

func checkPure(t *testing.T, c tuneCall, a, b impl.Tune) {
	t.Helper()
	x, wholeX := withSpare(a)
	y, wholeY := withSpare(b)
	beforeX, beforeY := slices.Clone(wholeX), slices.Clone(wholeY)
	first, one := c.run(x, y)
	kept, two := c.run(x, y)
	wantEqual(t, kept, first, c.name, "twice", raw(a), "and", raw(b))
	before := raw(two)
	scribble(one)
	wantEqual(t, raw(wholeX)+","+raw(wholeY), raw(beforeX)+","+raw(beforeY), c.name, "left its arguments", raw(a), "and", raw(b))
	third, _ := c.run(slices.Clip(slices.Clone(a)), slices.Clip(slices.Clone(b)))
	wantEqual(t, third, first, c.name, "with no spare capacity", raw(a), "and", raw(b))
	wantEqual(t, raw(two), before, c.name, "shares no memory with another result", raw(a), "and", raw(b))
	same, _ := c.run(x, x)
	equal, _ := c.run(x, slices.Clone(x))
	wantEqual(t, same, equal, c.name, "with one tune twice", raw(a))
}

func TestP1Pure(t *testing.T) {
	list := append(allTunes(), notes(9, 3, 1, 3, 9, 3, 1, 2))
	numbers := [][3]int64{{1, 1, 0}, {1, 199, 5}, {2, 3, -1}, {3, 200, 12}, {0, 200, 0}, {0, 0, 0}, {-1, -1, -1}, {math.MinInt64, math.MaxInt64, math.MinInt64}}
	for i, n := range numbers {
		for j, a := range list {
			b := list[(j*7+i)%len(list)]
			for _, c := range tuneCalls(1<<24|1<<28|uint64(i)<<30, n[0], n[1], n[2]) {
				checkPure(t, c, a, b)
			}
		}
	}
}

func TestP1SameWhenNilOrEmpty(t *testing.T) {
	for _, c := range tuneCalls(5, 1, 2, 3) {
		one, _ := c.run(nil, nil)
		two, _ := c.run(impl.Tune{}, make(impl.Tune, 0, 5))
		wantEqual(t, two, one, c.name, "of nil and empty")
	}
}

func TestP1InvalidFirst(t *testing.T) {
	good := notes(0, 24, 2, 28)
	byRule := []string{"ValidTune", "SameTune", "MakeTune", "TuneText", "ReadTune"}
	ofTwo := []string{"JoinTunes", "Together", "CommonNotes", "BestShift"}
	for _, numbers := range [][3]int64{{1, 1, 1}, {-1, -1, 99}, {math.MinInt64, math.MaxInt64, math.MinInt64}} {
		for _, c := range tuneCalls(0, numbers[0], numbers[1], numbers[2]) {
			for _, bad := range invalidTunes() {
				if slices.Contains(byRule, c.name) {
					continue
				}
				checkInvalid(t, c, bad, good)
				checkInvalid(t, c, bad, bad)
				if slices.Contains(ofTwo, c.name) {
					checkInvalid(t, c, good, bad)
					checkInvalid(t, c, block(120, 197), bad)
				}
			}
		}
	}
}

func checkInvalid(t *testing.T, c tuneCall, a, b impl.Tune) {
	t.Helper()
	text, list := c.run(a, b)
	zeros := strings.TrimSpace(strings.NewReplacer("0", "", "false", "", " ", "").Replace(text))
	wantEqual(t, zeros, "1", c.name, "is invalid first, and has no other result", text)
	wantEqual(t, len(list), 0, c.name, "has no tune with an error")
}

func TestP1GreatArguments(t *testing.T) {
	const size = 1000000
	lists := []impl.Tune{row(size, 0, 0, 0, 0), row(size, 0, 0, 1, 0), row(size, 0, 0, 1, 1), make(impl.Tune, size)}
	crowd := impl.Tune{}
	for i := range size {
		crowd = append(crowd, impl.Note{At: int16(i % impl.MaxAt), Pitch: int8(i / impl.MaxAt % impl.MaxPitch)})
	}
	last := make(impl.Tune, size)
	last[size-1].At = impl.MaxAt
	for _, c := range tuneCalls(math.MaxUint64, 1, 1, 1) {
		for _, a := range append(lists, crowd, last) {
			one, _ := c.run(a, a)
			two, _ := c.run(a, a)
			wantEqual(t, len(one) == len(two) && one == two, true, c.name, "of a great list")
		}
	}
	made, code := impl.MakeTune(crowd)
	wantTune(t, made, code, "[limit]", "make a crowd")
	made, code = impl.MakeTune(last)
	wantTune(t, made, code, "[range]", "make with a bad last note")
	made, code = impl.MakeTune(make(impl.Tune, size))
	wantTune(t, made, code, "0:c0", "make one note of many")
	for _, part := range []string{" ", "0", "0:c0 ", ":", "\xff", "-", "#", "1:c0 2:c0 "} {
		read, code := impl.ReadTune(strings.Repeat(part, size/len(part)))
		wantTune(t, read, code, "[syntax]", "read", part, "again and again")
	}
}

func TestP1Numbers(t *testing.T) {
	for _, n := range farNumbers {
		wantEqual(t, impl.CodeName(n), impl.CodeName(n), "code", n)
		wantEqual(t, impl.PitchName(n), impl.PitchName(n), "pitch", n)
		for _, m := range farNumbers {
			for _, k := range []int64{0, n, -m, math.MinInt64} {
				for _, c := range tuneCalls(uint64(m), n, m, k) {
					one, _ := c.run(notes(0, 0, 199, 47), notes(3, 5))
					two, _ := c.run(notes(0, 0, 199, 47), notes(3, 5))
					wantEqual(t, two, one, c.name, n, m, k)
				}
			}
		}
	}
}

// thereAndBack changes a tune by a number and by its opposite, and reports whether it could be changed.
func thereAndBack(t *testing.T, change func(impl.Tune, int64) (impl.Tune, int64), a impl.Tune, n int64, there impl.Tune) bool {
	t.Helper()
	changed, code := change(a, n)
	if code != impl.OK {
		return false
	}
	wantEqual(t, raw(changed), raw(there), "there", raw(a), n)
	back, code := change(changed, -n)
	wantEqual(t, answer(back, code), answer(a, impl.OK), "and back", raw(a), n)
	return true
}

func TestP2ThereAndBack(t *testing.T) {
	for i, a := range validTunes() {
		moved, high := 0, 0
		for n := int64(-202); n <= 202; n++ {
			there, up := slices.Clone(a), slices.Clone(a)
			for j := range a {
				there[j].At += int16(n)
				up[j].Pitch += int8(n)
			}
			if thereAndBack(t, impl.MoveTune, a, n, there) {
				moved++
			}
			if thereAndBack(t, impl.Transpose, a, n, up) {
				high++
			}
		}
		wantEqual(t, fmt.Sprint(moved, " ", high), waysToChange(a), "how often it can be changed", i, raw(a))
	}
}

// waysToChange tells by how many numbers a tune can be moved, and transposed.
func waysToChange(a impl.Tune) string {
	if len(a) == 0 {
		return fmt.Sprint(2*impl.MaxAt+1, " ", 2*impl.MaxPitch+1)
	}
	low, high := a[0].Pitch, a[0].Pitch
	for _, n := range a {
		low, high = min(low, n.Pitch), max(high, n.Pitch)
	}
	return fmt.Sprint(impl.MaxAt-int(a[len(a)-1].At-a[0].At), " ", impl.MaxPitch-int(high-low))
}

func TestBackwardTwice(t *testing.T) {
	for i, a := range validTunes() {
		back, one := impl.Backward(a)
		again, two := impl.Backward(back)
		wantEqual(t, fmt.Sprint(one, two), "0 0", "backward", i)
		if len(a) == 0 || a[0].At == 0 {
			wantEqual(t, raw(again), raw(a), "backward twice", i)
		}
	}
}

// playableBy tells whether a tune, transposed by a number, can be played, as Transpose and CanPlay say.
func playableBy(bells uint64, a impl.Tune, by int64) bool {
	high, code := impl.Transpose(a, by)
	if code != impl.OK {
		return false
	}
	can, code := impl.CanPlay(bells, high)
	return can && code == impl.OK
}

func checkTransposed(t *testing.T, bells uint64, a impl.Tune) int64 {
	t.Helper()
	by, code := impl.TransposeFor(bells, a)
	size := max(by, -by)
	switch code {
	case impl.OK:
		wantEqual(t, playableBy(bells, a, by), true, "transposed", raw(a), "for", bells, "by", by)
		wantEqual(t, by < 0 && playableBy(bells, a, -by), false, "the one greater than 0", raw(a), "for", bells)
	case impl.ErrNotFound:
		wantEqual(t, by, 0, "no number with an error")
		size = impl.MaxPitch + 1
	default:
		t.Errorf("transposed %s for %d: code %d", raw(a), bells, code)
	}
	for n := -size + 1; n < size; n++ {
		wantEqual(t, playableBy(bells, a, n), false, "transposed", raw(a), "for", bells, "by less:", n)
	}
	return code
}

func TestP3TransposedCanBePlayed(t *testing.T) {
	found, missed := 0, 0
	for _, a := range validTunes() {
		pitches, _ := impl.PitchesOf(a)
		sets := bellSets()
		for by := uint(0); by < 50; by += 1 + by/8 {
			sets = append(sets, pitches<<by, pitches>>by, pitches<<by|pitches>>by, pitches<<by|pitches>>(by+1), pitches<<(by+1)|pitches>>by)
		}
		for _, bells := range sets {
			if checkTransposed(t, bells, a) == impl.OK {
				found++
			} else {
				missed++
			}
		}
	}
	if found < 1000 || missed < 1000 {
		t.Errorf("the tests look at too few cases: %d and %d", found, missed)
	}
}
