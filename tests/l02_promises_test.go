package tests

import (
	"fmt"
	"math"
	"slices"
	"strings"
	"testing"

	"loop.example/g01311/impl"
)

// listOf is what a test may do to a slice that it has been given.
type listOf struct {
	show  func() string
	spoil func()
}

func listOfSlice[T any](list []T, filler T) listOf {
	return listOf{
		func() string { return fmt.Sprint(list) },
		func() {
			list = list[:cap(list)]
			for i := range list {
				list[i] = filler
			}
		},
	}
}

// checkLists asks that slices, which two calls return alike, share memory neither with arguments nor with each other; shown shows the memory of the arguments.
func checkLists(t *testing.T, call func() []listOf, shown func() string) {
	t.Helper()
	before, kept := shown(), call()
	var texts []string
	for _, list := range kept {
		texts = append(texts, list.show())
	}
	for i, list := range call() {
		wantEqual(t, list.show(), texts[i], "equal results", i)
		list.spoil()
		wantEqual(t, shown(), before, "no result shares memory with an argument", i)
	}
	for i, list := range kept {
		wantEqual(t, list.show(), texts[i], "shares no memory with a result of another call", i)
		list.spoil()
		for j := i + 1; j < len(kept); j++ {
			wantEqual(t, kept[j].show(), texts[j], "shares no memory with another result", i, j)
		}
	}
}

// drumLists has each function of chapter 2 that returns a slice.
func drumLists(f impl.Frame, d impl.Drum) []listOf {
	tune, _ := impl.TuneOf(f, d)
	clashes, _ := impl.ClashesOf(f, d)
	counts, _ := impl.PinsByTrack(f, d)
	places, _ := impl.FreePlaces(f, d, 0)
	tracks, _ := impl.FreeTracks(f, d, 1, 24)
	swapped, _, _ := impl.SwapTracks(f, d, 0, int64(len(f.Hammers))-1)
	same, _, _ := impl.SwapTracks(f, d, 0, 0)
	picture, _ := impl.DrumPicture(f, d)
	read, _ := impl.ReadFrame(impl.FrameText(f))
	filler := impl.Hammer{Pitch: 77, Ready: 77}
	return []listOf{
		listOfSlice(tune, impl.Note{At: 77, Pitch: 77}),
		listOfSlice(clashes, [2]int64{77, 77}),
		listOfSlice(counts, 77),
		listOfSlice(places, 77),
		listOfSlice(tracks, 77),
		listOfSlice(swapped.Hammers, filler),
		listOfSlice(same.Hammers, filler),
		listOfSlice(picture, "77"),
		listOfSlice(read.Hammers, filler),
	}
}

// spareFrame returns a frame with spare capacity behind its hammers, and all of their memory.
func spareFrame(f impl.Frame) (impl.Frame, []impl.Hammer) {
	whole := make([]impl.Hammer, len(f.Hammers)+9)
	copy(whole, f.Hammers)
	for i := len(f.Hammers); i < len(whole); i++ {
		whole[i] = impl.Hammer{Pitch: int8(-i), Ready: -9}
	}
	f.Hammers = whole[:len(f.Hammers)]
	return f, whole
}

func TestP1DrumsPure(t *testing.T) {
	for _, f := range slices.Concat(validFrames(), invalidFrames()) {
		bare := f
		bare.Hammers = slices.Clip(slices.Clone(f.Hammers))
		spare, whole := spareFrame(f)
		before := slices.Clone(whole)
		for i, d := range append(drumsFor(validFrames()[0]), impl.Drum{95: math.MaxUint32}) {
			e := pinned(i%4, 0)
			for _, c := range drumCalls() {
				n, k := int64(i%4), int64(i%3)
				first := c.run(spare, d, e, n, k)
				wantEqual(t, c.run(spare, d, e, n, k), first, c.name, "twice")
				wantEqual(t, c.run(bare, d, e, n, k), first, c.name, "with no spare capacity")
			}
			wantEqual(t, slices.Equal(whole, before), true, "the hammers are as they were")
		}
	}
}

func TestP1DrumsShareNoMemory(t *testing.T) {
	for _, f := range validFrames() {
		spare, whole := spareFrame(f)
		before := slices.Clone(whole)
		for _, d := range drumsFor(f) {
			kept := drumLists(spare, d)
			var texts []string
			for _, list := range kept {
				texts = append(texts, list.show())
			}
			for i, list := range drumLists(spare, d) {
				wantEqual(t, list.show(), texts[i], "equal results", i)
				list.spoil()
			}
			wantEqual(t, slices.Equal(whole, before), true, "no result shares memory with the hammers")
			for i, list := range kept {
				wantEqual(t, list.show(), texts[i], "shares no memory with another result", i)
			}
		}
	}
}

// checkInvalidDrum asks for ErrInvalid, with zero values beside it.
func checkInvalidDrum(t *testing.T, c drumCall, f impl.Frame, d, e impl.Drum, n, k int64) {
	t.Helper()
	got := c.run(f, d, e, n, k)
	zeros := withoutZeros(got)
	if zeros != "invalid" {
		t.Errorf("%s: %s; %s; %s; %d %d: got %s, want ErrInvalid and zero values", c.name, rawFrame(f), rawDrum(d), rawDrum(e), n, k, got)
	}
}

func TestP1DrumsInvalidFirst(t *testing.T) {
	numbers := [][2]int64{{0, 0}, {1, 24}, {-1, -1}, {math.MinInt64, math.MaxInt64}, {96, 48}}
	for _, n := range numbers {
		for _, c := range drumCalls() {
			for _, f := range invalidFrames() {
				checkInvalidDrum(t, c, f, impl.Drum{}, impl.Drum{}, n[0], n[1])
				checkInvalidDrum(t, c, f, impl.Drum{0: 1}, impl.Drum{0: 1}, n[0], n[1])
			}
			if c.name == "BellsOf" || c.name == "HammersFor" {
				continue
			}
			for _, f := range validFrames() {
				for _, bad := range invalidDrumsFor(f) {
					checkInvalidDrum(t, c, f, bad, impl.Drum{}, n[0], n[1])
					checkInvalidDrum(t, c, f, bad, bad, n[0], n[1])
					if c.name == "PinsToMove" {
						checkInvalidDrum(t, c, f, impl.Drum{}, bad, n[0], n[1])
					}
				}
			}
		}
	}
}

// TestP1DrumsRangeNext asks for ErrRange where an error that comes behind it could be told.
func TestP1DrumsRangeNext(t *testing.T) {
	f := frame(8, 24, 3)
	for _, d := range []impl.Drum{{}, fullDrum(f)} {
		for _, n := range [][2]int64{{8, 0}, {0, 1}, {-1, 0}, {0, -1}, {8, 1}} {
			_, one := impl.WithPin(f, d, n[0], n[1])
			_, two := impl.WithoutPin(f, d, n[0], n[1])
			wantEqual(t, fmt.Sprint(one, two), "2 2", "range ahead of state", rawDrum(d), n)
		}
	}
}

func TestP1GreatFrames(t *testing.T) {
	const size = 1000000
	great := impl.Frame{Steps: 8, Hammers: make([]impl.Hammer, size)}
	for i := range great.Hammers {
		great.Hammers[i] = impl.Hammer{Pitch: 24, Ready: 3}
	}
	wantEqual(t, impl.ValidFrame(great), false, "a great frame")
	wantEqual(t, impl.ValidDrum(great, impl.Drum{}), false, "a drum for a great frame")
	wantEqual(t, impl.FrameText(great), "", "text of a great frame")
	for _, c := range drumCalls() {
		checkInvalidDrum(t, c, great, impl.Drum{0: math.MaxUint32}, impl.Drum{}, 0, 24)
	}
	for _, part := range []string{" ", "8", "8 ", "8 c2/3 ", " c2/3", "/", "c2/", "\xff", "-", "#"} {
		read, code := impl.ReadFrame(strings.Repeat(part, size/len(part)))
		wantEqual(t, answers(code, read), "syntax; 0 []", "read", part, "again and again")
		read, code = impl.ReadFrame("8 c2/3" + strings.Repeat(part, size/len(part)))
		wantEqual(t, answers(code, read), "syntax; 0 []", "read a hammer, and", part, "again and again")
	}
}

// clashSet returns the clashes that ClashesOf tells.
func clashSet(t *testing.T, f impl.Frame, d impl.Drum) map[[2]int64]bool {
	t.Helper()
	list, code := impl.ClashesOf(f, d)
	wantEqual(t, code, impl.OK, "clashes")
	set := map[[2]int64]bool{}
	for _, c := range list {
		set[c] = true
	}
	return set
}

// checkPlace puts a pin at a place, and tells whether it was there already, made a clash, or made none.
func checkPlace(t *testing.T, f impl.Frame, d impl.Drum, before map[[2]int64]bool, step, track int64) string {
	t.Helper()
	with, code := impl.WithPin(f, d, step, track)
	if code == impl.ErrState {
		return "there"
	}
	wantEqual(t, code, impl.OK, "with a pin")
	behind := clashSet(t, f, with)
	for c := range before {
		if !behind[c] {
			t.Errorf("%s; %s: a pin at %d %d takes the clash at %v away", rawFrame(f), rawDrum(d), step, track, c)
		}
	}
	if len(behind) > len(before) {
		return "clash"
	}
	return "none"
}

func TestP4FreePlaces(t *testing.T) {
	found := map[string]int{}
	for _, f := range validFrames() {
		for _, d := range drumsFor(f) {
			before := clashSet(t, f, d)
			for track := range int64(len(f.Hammers)) {
				if f.Steps > 40 && track > 2 {
					break
				}
				free, code := impl.FreePlaces(f, d, track)
				wantEqual(t, code, impl.OK, "free places")
				for step := range int64(f.Steps) {
					what := checkPlace(t, f, d, before, step, track)
					found[what]++
					wantEqual(t, slices.Contains(free, step), what == "none", "free if a pin makes no clash", f.Steps, step, track)
					tracks, code := impl.FreeTracks(f, d, step, int64(f.Hammers[track].Pitch))
					wantEqual(t, fmt.Sprint(slices.Contains(tracks, track), code), fmt.Sprint(what == "none", 0), "free track if a pin makes no clash", f.Steps, step, track)
				}
			}
		}
	}
	for _, what := range []string{"there", "clash", "none"} {
		if found[what] < 1000 {
			t.Errorf("the tests look at too few cases: %v", found)
		}
	}
}

// TestP4WhereTheDrumBegins puts a pin on a drum with one other pin, all around.
func TestP4WhereTheDrumBegins(t *testing.T) {
	for _, steps := range []int64{2, 3, 8, 20, 21, 96} {
		for ready := int64(1); ready <= min(steps, 20); ready++ {
			f := frame(int(steps), 24, int(ready))
			for pin := range steps {
				free, code := impl.FreePlaces(f, pinned(int(pin), 0), 0)
				want := []int64{}
				for step := range steps {
					ahead := (step - pin + steps) % steps
					if step != pin && ahead >= ready && steps-ahead >= ready {
						want = append(want, step)
					}
				}
				wantEqual(t, answers(code, free), answers(impl.OK, want), "free places of", steps, ready, pin)
			}
		}
	}
}

// played tells how many notes, pins and clashes a drum has, and how many pins each track has.
func played(t *testing.T, f impl.Frame, d impl.Drum) string {
	t.Helper()
	tune, one := impl.TuneOf(f, d)
	pins, two := impl.CountPins(f, d)
	tracks, three := impl.PinsByTrack(f, d)
	clashes, four := impl.ClashesOf(f, d)
	return fmt.Sprint(len(tune), one, pins, two, tracks, three, len(clashes), four)
}

func TestP5TurnedAround(t *testing.T) {
	for _, f := range validFrames() {
		for _, d := range drumsFor(f) {
			as, once := played(t, f, d), d
			for by := range int64(f.Steps) {
				turned, code := impl.TurnDrum(f, d, by)
				wantDrum(t, turned, code, rawDrum(once), "turned by one again and again", by)
				wantEqual(t, played(t, f, turned), as, "plays as many notes", by)
				back, code := impl.TurnDrum(f, turned, (int64(f.Steps)-by)%int64(f.Steps))
				wantDrum(t, back, code, rawDrum(d), "turned around", by)
				once, code = impl.TurnDrum(f, once, 1)
				wantEqual(t, code, impl.OK, "turned by one")
			}
			wantEqual(t, once, d, "turned around by ones")
		}
	}
}

func TestP5MirroredTwice(t *testing.T) {
	for _, f := range validFrames() {
		for _, d := range drumsFor(f) {
			mirrored, code := impl.MirrorDrum(f, d)
			wantEqual(t, code, impl.OK, "mirrored")
			wantEqual(t, played(t, f, mirrored), played(t, f, d), "plays as many notes", rawFrame(f), rawDrum(d))
			again, code := impl.MirrorDrum(f, mirrored)
			wantDrum(t, again, code, rawDrum(d), "mirrored twice", rawFrame(f))
			for step := range int64(f.Steps) {
				wantEqual(t, mirrored[step], d[int64(f.Steps)-1-step], "mirrored", step)
			}
		}
	}
}

// TestClashIsHeard asks that each clash is two notes of a pitch too near for one hammer.
func TestClashIsHeard(t *testing.T) {
	heard := 0
	for _, f := range validFrames() {
		for _, d := range drumsFor(f) {
			tune, code := impl.TuneOf(f, d)
			if code != impl.OK {
				continue
			}
			for c := range clashSet(t, f, d) {
				hammer, near := f.Hammers[c[1]], 0
				for _, n := range tune {
					behind := (int64(n.At) - c[0] + int64(f.Steps)) % int64(f.Steps)
					if n.Pitch == hammer.Pitch && behind < int64(hammer.Ready) {
						near++
					}
				}
				wantEqual(t, near >= 2, true, "two notes too near", rawFrame(f), rawDrum(d), c)
				heard++
			}
		}
	}
	if heard < 100 {
		t.Errorf("the tests look at too few clashes: %d", heard)
	}
}

// TestSwappedTwice asks that tracks that are exchanged twice are as they were, and that the tune is the same.
func TestSwappedTwice(t *testing.T) {
	for _, f := range validFrames() {
		for i, d := range drumsFor(f) {
			a, b := int64(i%len(f.Hammers)), int64(i*3%len(f.Hammers))
			other, swapped, one := impl.SwapTracks(f, d, a, b)
			again, back, two := impl.SwapTracks(other, swapped, b, a)
			wantEqual(t, answers(one+two, again, back), answers(impl.OK, f, d), "swapped twice", a, b)
			wantEqual(t, answers(tuneCode(other, swapped)), answers(tuneCode(f, d)), "the same tune", a, b)
		}
	}
}

func tuneCode(f impl.Frame, d impl.Drum) (int64, impl.Tune) {
	tune, code := impl.TuneOf(f, d)
	return code, tune
}
