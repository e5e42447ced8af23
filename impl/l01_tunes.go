package impl

import (
	"cmp"
	"iter"
	"slices"
	"sort"
	"strconv"
	"strings"
)

// Codes of errors.
const (
	OK          = 0
	ErrInvalid  = 1
	ErrRange    = 2
	ErrLimit    = 3
	ErrState    = 4
	ErrSyntax   = 5
	ErrNotFound = 6
	ErrBudget   = 7
	ErrProof    = 8
)

// Limits of tunes.
const (
	MaxPitch = 48
	MaxAt    = 200
	MaxNotes = 120
)

// Limits of numbers by which tunes are changed.
const (
	maxFactor = 100
	maxVoices = 8
)

var codeNames = [9]string{"ok", "invalid", "range", "limit", "state", "syntax", "notfound", "budget", "proof"}

var halfSteps = [12]string{"c", "c#", "d", "d#", "e", "f", "f#", "g", "g#", "a", "a#", "b"}

// Note begins at a step, and has a pitch.
type Note struct {
	At    int16
	Pitch int8
}

// Tune is an ascending list of notes.
type Tune []Note

// CodeName returns the name of an error code.
func CodeName(code int64) string {
	if !within(code, 0, int64(len(codeNames))-1) {
		return ""
	}
	return codeNames[code]
}

// PitchName returns the name of a pitch.
func PitchName(pitch int64) string {
	if !within(pitch, 0, MaxPitch-1) {
		return ""
	}
	octave := strconv.FormatInt(pitch/12, 10)
	return halfSteps[pitch%12] + octave
}

// ValidTune reports whether a tune is valid.
func ValidTune(t Tune) bool {
	// The length comes first, so that a list that is far too long is not gone through.
	rules := []func(Tune) bool{Tune.isShort, Tune.isInRange, Tune.ascends}
	for _, holds := range rules {
		if !holds(t) {
			return false
		}
	}
	return true
}

// SameTune reports whether two lists are equal.
func SameTune(a, b Tune) bool { return slices.Equal(a, b) }

// MakeTune returns the tune with the notes of a list.
func MakeTune(list []Note) (Tune, int64) {
	if !Tune(list).isInRange() {
		return nil, ErrRange
	}
	seen := map[Note]bool{}
	var made Tune
	for _, n := range list {
		if seen[n] {
			continue
		}
		if len(made) == MaxNotes {
			return nil, ErrLimit
		}
		seen[n] = true
		made = append(made, n)
	}
	slices.SortFunc(made, compareNotes)
	return made, OK
}

// PitchesOf returns the pitches of a tune.
func PitchesOf(t Tune) (uint64, int64) {
	if !ValidTune(t) {
		return 0, ErrInvalid
	}
	return t.pitches(), OK
}

// LengthOf returns the length of a tune.
func LengthOf(t Tune) (int64, int64) {
	if !ValidTune(t) {
		return 0, ErrInvalid
	}
	return t.length(), OK
}

// CanPlay reports whether all pitches of a tune are among the bells.
func CanPlay(bells uint64, t Tune) (bool, int64) {
	if !ValidTune(t) {
		return false, ErrInvalid
	}
	return t.missing(bells) == 0, OK
}

// MissingFor returns the pitches that are not among the bells.
func MissingFor(bells uint64, t Tune) (uint64, int64) {
	if !ValidTune(t) {
		return 0, ErrInvalid
	}
	return t.missing(bells), OK
}

// MoveTune moves a tune by some steps.
func MoveTune(t Tune, steps int64) (Tune, int64) {
	if !ValidTune(t) {
		return nil, ErrInvalid
	}
	if !within(steps, -MaxAt, MaxAt) {
		return nil, ErrState
	}
	return t.shifted(steps, 0)
}

// Transpose transposes a tune.
func Transpose(t Tune, by int64) (Tune, int64) {
	if !ValidTune(t) {
		return nil, ErrInvalid
	}
	if !within(by, -MaxPitch, MaxPitch) {
		return nil, ErrState
	}
	return t.shifted(0, by)
}

// TransposeFor returns by how much a tune has to be transposed for some bells.
func TransposeFor(bells uint64, t Tune) (int64, int64) {
	if !ValidTune(t) {
		return 0, ErrInvalid
	}
	for by := range outward(MaxPitch) {
		if moved, code := t.shifted(0, by); code == OK && moved.missing(bells) == 0 {
			return by, OK
		}
	}
	return 0, ErrNotFound
}

// Backward returns a tune from its end to its beginning.
func Backward(t Tune) (Tune, int64) {
	if !ValidTune(t) {
		return nil, ErrInvalid
	}
	last := t.length() - 1
	return t.changed(func(at, pitch int64) (int64, int64) { return last - at, pitch })
}

// Inverted returns a tune upside down.
func Inverted(t Tune, around int64) (Tune, int64) {
	if !ValidTune(t) {
		return nil, ErrInvalid
	}
	if !within(around, 0, MaxPitch-1) {
		return nil, ErrState
	}
	return t.changed(func(at, pitch int64) (int64, int64) { return at, 2*around - pitch })
}

// Stretched returns a tune that takes longer, or less long.
func Stretched(t Tune, num, den int64) (Tune, int64) {
	if !ValidTune(t) {
		return nil, ErrInvalid
	}
	if !within(num, 1, maxFactor) || !within(den, 1, maxFactor) {
		return nil, ErrRange
	}
	for _, n := range t {
		if int64(n.At)*num%den != 0 {
			return nil, ErrState
		}
	}
	return t.changed(func(at, pitch int64) (int64, int64) { return at * num / den, pitch })
}

// JoinTunes returns a tune, and then another one.
func JoinTunes(a, b Tune) (Tune, int64) {
	if !ValidTune(a) || !ValidTune(b) {
		return nil, ErrInvalid
	}
	return a.with(b, a.length())
}

// Together returns the notes of two tunes.
func Together(a, b Tune) (Tune, int64) {
	if !ValidTune(a) || !ValidTune(b) {
		return nil, ErrInvalid
	}
	return MakeTune(slices.Concat(a, b))
}

// CutTune returns a part of a tune.
func CutTune(t Tune, from, to int64) (Tune, int64) {
	if !ValidTune(t) {
		return nil, ErrInvalid
	}
	if !within(from, 0, to) || !within(to, 0, MaxAt) {
		return nil, ErrRange
	}
	return t.between(from, to).shifted(-from, 0)
}

// CanonOf returns a canon.
func CanonOf(t Tune, voices, delay, by int64) (Tune, int64) {
	if !ValidTune(t) {
		return nil, ErrInvalid
	}
	if !within(voices, 1, maxVoices) || !within(delay, 0, MaxAt) || !within(by, -MaxPitch, MaxPitch) {
		return nil, ErrRange
	}
	var all []Note
	for voice, code := range t.voices(voices, delay, by) {
		if code != OK {
			return nil, ErrLimit
		}
		all = append(all, voice...)
	}
	return MakeTune(all)
}

// LeastGap returns the least gap of notes with one pitch.
func LeastGap(t Tune) (int64, int8, int64) {
	if !ValidTune(t) {
		return 0, 0, ErrInvalid
	}
	// No two notes are as far apart as MaxAt, so that it stands for no gap.
	gap, pitch := int64(MaxAt), int8(0)
	last := map[int8]int64{}
	for _, n := range t {
		at := int64(n.At)
		before, twice := last[n.Pitch]
		last[n.Pitch] = at
		if twice && (at-before < gap || at-before == gap && n.Pitch < pitch) {
			gap, pitch = at-before, n.Pitch
		}
	}
	if gap == MaxAt {
		return 0, 0, ErrNotFound
	}
	return gap, pitch, OK
}

// LoudestStep returns the step at which most notes begin.
func LoudestStep(t Tune) (int64, int64, int64) {
	if !ValidTune(t) {
		return 0, 0, ErrInvalid
	}
	if len(t) == 0 {
		return 0, 0, ErrNotFound
	}
	var counts [MaxAt]int64
	for _, n := range t {
		counts[n.At]++
	}
	loudest := 0
	for at, count := range counts {
		if count > counts[loudest] {
			loudest = at
		}
	}
	return int64(loudest), counts[loudest], OK
}

// CommonNotes returns how many notes are in both tunes.
func CommonNotes(a, b Tune) (int64, int64) {
	if !ValidTune(a) || !ValidTune(b) {
		return 0, ErrInvalid
	}
	in := map[Note]bool{}
	for _, n := range a {
		in[n] = true
	}
	var common int64
	for _, n := range b {
		if in[n] {
			common++
		}
	}
	return common, OK
}

// BestShift returns the shift with most common notes.
func BestShift(a, b Tune) (int64, int64, int64) {
	if !ValidTune(a) || !ValidTune(b) {
		return 0, 0, ErrInvalid
	}
	var counts [2*MaxAt + 1]int64
	for _, x := range a {
		for _, y := range b {
			if x.Pitch == y.Pitch {
				counts[MaxAt+int64(x.At)-int64(y.At)]++
			}
		}
	}
	var best, most int64
	for shift := range outward(MaxAt) {
		if count := counts[MaxAt+shift]; count > most {
			best, most = shift, count
		}
	}
	return best, most, OK
}

// TuneText returns the text of a tune.
func TuneText(t Tune) string {
	if !ValidTune(t) {
		return ""
	}
	parts := make([]string, 0, len(t))
	for _, n := range t {
		at := strconv.FormatInt(int64(n.At), 10)
		parts = append(parts, at+":"+PitchName(int64(n.Pitch)))
	}
	return strings.Join(parts, " ")
}

// ReadTune returns the tune with a text.
func ReadTune(text string) (Tune, int64) {
	if text == "" {
		return nil, OK
	}
	var read Tune
	for _, part := range strings.SplitN(text, " ", MaxNotes+1) {
		n, ok := readNote(part)
		if !ok {
			return nil, ErrSyntax
		}
		read = append(read, n)
	}
	// A number can be spelt in several ways, but a tune has one text alone.
	if TuneText(read) != text {
		return nil, ErrSyntax
	}
	return read, OK
}

func readNote(text string) (Note, bool) {
	step, name, found := strings.Cut(text, ":")
	at, err := strconv.ParseInt(step, 10, 16)
	pitch, named := pitchNamed(name)
	if !found || err != nil || !named {
		return Note{}, false
	}
	return Note{At: int16(at), Pitch: pitch}, true
}

func pitchNamed(name string) (int8, bool) {
	for pitch := range int8(MaxPitch) {
		if PitchName(int64(pitch)) == name {
			return pitch, true
		}
	}
	return 0, false
}

func (t Tune) isShort() bool { return len(t) <= MaxNotes }

func (t Tune) isInRange() bool {
	for _, n := range t {
		if !isPlace(int64(n.At), int64(n.Pitch)) {
			return false
		}
	}
	return true
}

func (t Tune) ascends() bool {
	for i := 1; i < len(t); i++ {
		if compareNotes(t[i-1], t[i]) >= 0 {
			return false
		}
	}
	return true
}

func (t Tune) length() int64 {
	if len(t) == 0 {
		return 0
	}
	return int64(t[len(t)-1].At) + 1
}

func (t Tune) pitches() uint64 {
	var set uint64
	for _, n := range t {
		set |= 1 << n.Pitch
	}
	return set
}

func (t Tune) missing(bells uint64) uint64 { return t.pitches() &^ bells }

// firstFrom returns the index of the first note at a step or behind it.
func (t Tune) firstFrom(step int64) int {
	return sort.Search(len(t), func(i int) bool { return int64(t[i].At) >= step })
}

// between returns the notes from one step to the one before another.
func (t Tune) between(from, to int64) Tune {
	first, end := t.firstFrom(from), t.firstFrom(to)
	return t[first:end:end]
}

// changed returns the tune in which each note is where place puts it; no two notes may be put at one place.
func (t Tune) changed(place func(at, pitch int64) (int64, int64)) (Tune, int64) {
	out := make(Tune, 0, len(t))
	for _, n := range t {
		at, pitch := place(int64(n.At), int64(n.Pitch))
		if !isPlace(at, pitch) {
			return nil, ErrState
		}
		out = append(out, Note{At: int16(at), Pitch: int8(pitch)})
	}
	slices.SortFunc(out, compareNotes)
	return out, OK
}

func (t Tune) shifted(steps, by int64) (Tune, int64) {
	return t.changed(func(at, pitch int64) (int64, int64) { return at + steps, pitch + by })
}

// with returns the notes of both tunes, the other one being moved; ErrLimit if that is no tune.
func (t Tune) with(other Tune, steps int64) (Tune, int64) {
	moved, code := other.shifted(steps, 0)
	if code != OK {
		return nil, ErrLimit
	}
	return MakeTune(slices.Concat(t, moved))
}

// voices yields the voices of a canon, each with the code of its change.
func (t Tune) voices(count, delay, by int64) iter.Seq2[Tune, int64] {
	return func(yield func(Tune, int64) bool) {
		for v := range count {
			if !yield(t.shifted(v*delay, v*by)) {
				return
			}
		}
	}
}

// outward yields the numbers up to a size, the least sizes first, and of two the one greater than 0.
func outward(most int64) iter.Seq[int64] {
	return func(yield func(int64) bool) {
		if !yield(0) {
			return
		}
		for size := int64(1); size <= most; size++ {
			if !yield(size) || !yield(-size) {
				return
			}
		}
	}
}

func compareNotes(a, b Note) int {
	return cmp.Or(cmp.Compare(a.At, b.At), cmp.Compare(a.Pitch, b.Pitch))
}

func isPlace(at, pitch int64) bool {
	return within(at, 0, MaxAt-1) && within(pitch, 0, MaxPitch-1)
}

func within(n, least, most int64) bool { return least <= n && n <= most }
