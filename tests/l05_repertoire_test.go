package tests

import (
	"fmt"
	"math"
	"slices"
	"strings"
	"testing"

	"loop.example/g01311/impl"
)

// This file has chapter 5's results written out: the document's example, its edges, and its errors.

const (
	twoTracks = "4 c2/1 e2/1"
	// ladderFrame has room for the drums of ladder and apartBy.
	ladderFrame = "96 c2/1"
)

func exampleDrums() []impl.Drum { return []impl.Drum{{1}, {1, 2}, {0, 2, 1}} }

func TestRepertoireLimits(t *testing.T) {
	wantEqual(t, fmt.Sprint(impl.MaxDrums, impl.MaxChanges), "8 2400", "limits")
}

func TestRepertoireExample(t *testing.T) {
	f, list := mustReadFrame(t, twoTracks), exampleDrums()
	for _, c := range []struct {
		a, b int
		want string
	}{{0, 1, "1"}, {1, 2, "2"}, {0, 2, "3"}} {
		cost, code := impl.ChangeCost(f, list[c.a], list[c.b])
		wantEqual(t, shown(t, code, cost), c.want, "cost", c.a, c.b)
	}
	order, cost, code := impl.BestOrder(f, list, -1)
	wantEqual(t, shown(t, code, order, cost), "[0 1 2]; 3", "best order")
	order, cost, code = impl.BestCircle(f, list)
	wantEqual(t, shown(t, code, order, cost), "[0 1 2]; 6", "best circle")
	tree, cost, code := impl.TreeOf(f, list)
	wantEqual(t, shown(t, code, tree, cost), "[[0 1] [1 2]]; 3", "tree")
	made, code := impl.ChangesBetween(f, list[1], list[2])
	wantEqual(t, shown(t, code, impl.ChangesText(made)), "-0/0 +2/0", "changes")
}

func TestChangesBetween(t *testing.T) {
	f := mustReadFrame(t, pairFrame)
	cases := []struct {
		name string
		a, b impl.Drum
		want string
	}{
		{"no pins", impl.Drum{}, impl.Drum{}, ""},
		{"equal ones", pinned(0, 0, 7, 2), pinned(7, 2, 0, 0), ""},
		{"a pin less", pinned(0, 0, 7, 2), pinned(0, 0), "-7/2"},
		{"a pin more", pinned(0, 0), pinned(0, 0, 7, 2), "+7/2"},
		{"all pins out", pinned(7, 2, 0, 0, 3, 1), impl.Drum{}, "-0/0 -3/1 -7/2"},
		{"all pins in", impl.Drum{}, pinned(7, 2, 0, 0, 3, 1), "+0/0 +3/1 +7/2"},
		{"first out, and then in", pinned(7, 2), pinned(0, 0), "-7/2 +0/0"},
		{"from track to track", pinned(4, 1), pinned(4, 0), "-4/1 +4/0"},
		{"by the step, then by the track", pinned(7, 0, 0, 2, 0, 0, 3, 1, 2, 1), pinned(3, 1, 4, 2, 4, 0, 1, 1), "-0/0 -0/2 -2/1 -7/0 +1/1 +4/0 +4/2"},
		{"clashes", pinned(0, 0, 1, 0), pinned(1, 0, 2, 0), "-0/0 +2/0"},
		{"no such track", pinned(0, 3), impl.Drum{}, "[invalid]"},
		{"no such step", impl.Drum{}, pinned(8, 0), "[invalid]"},
	}
	for _, c := range cases {
		list, code := impl.ChangesBetween(f, c.a, c.b)
		wantEqual(t, shown(t, code, list), c.want, "changes:", c.name)
	}
	most := likeHammers(96, 24, 0, 2, 20)
	for _, c := range []struct {
		a, b impl.Drum
		last string
	}{{fullDrum(most), impl.Drum{}, "-95/23"}, {impl.Drum{}, fullDrum(most), "+95/23"}} {
		list, code := impl.ChangesBetween(most, c.a, c.b)
		wantEqual(t, fmt.Sprint(len(list), " ", rawChanges(list[2303:]), " ", code), "2304 "+c.last+" 0", "all pins of the greatest drum")
	}
}

func TestMakeChanges(t *testing.T) {
	f, d := mustReadFrame(t, pairFrame), pinned(0, 0, 3, 1, 7, 2)
	// The last column is what FirstBadChange returns.
	cases := []struct{ name, list, want, bad string }{
		{"none", "", "0:1 3:2 7:4", "[notfound]"},
		{"a pin put", "+3/0", "0:1 3:3 7:4", "[notfound]"},
		{"a pin taken", "-3/1", "0:1 7:4", "[notfound]"},
		{"several ones, in any order", "-7/2 +5/1 -0/0 +1/2", "1:4 3:2 5:2", "[notfound]"},
		{"put, taken, and put again", "+5/1 -5/1 +5/1", "0:1 3:2 5:2 7:4", "[notfound]"},
		{"taken, and put again", "-0/0 +0/0", "0:1 3:2 7:4", "[notfound]"},
		{"clashes", "+1/0 +2/0", "0:1 1:1 2:1 3:2 7:4", "[notfound]"},
		{"all pins taken", "-3/1 -0/0 -7/2", "", "[notfound]"},
		{"the last step and the last track", "-7/2", "0:1 3:2", "[notfound]"},
		{"one step more", "+8/2", "[range]", "0"},
		{"one step more, taken", "-8/2", "[range]", "0"},
		{"one track more", "+7/3", "[range]", "0"},
		{"one track more, taken", "-7/3", "[range]", "0"},
		{"a step below 0", "+-1/0", "[range]", "0"},
		{"a track below 0", "+0/-1", "[range]", "0"},
		{"a step and a track that another frame has", "+95/23", "[range]", "0"},
		{"the least step", "--32768/0", "[range]", "0"},
		{"the greatest step", "+32767/0", "[range]", "0"},
		{"a step of more bits", "-256/0", "[range]", "0"},
		{"the least track", "+1/-128", "[range]", "0"},
		{"the greatest track", "+1/127", "[range]", "0"},
		{"a track of more bits", "-0/32", "[range]", "0"},
		{"a pin that is there", "+3/1", "[state]", "0"},
		{"a pin that is not there", "-3/0", "[state]", "0"},
		{"put twice", "+4/1 +4/1", "[state]", "1"},
		{"taken twice", "-0/0 -0/0", "[state]", "1"},
		{"taken, put, and put again", "-0/0 +0/0 +0/0", "[state]", "2"},
		{"of several errors a state", "+4/1 -4/0 +8/0 +9/9", "[state]", "1"},
		{"of several errors a range", "+4/1 +4/2 +4/3 +4/2", "[range]", "2"},
		{"an error of both kinds", "-8/0", "[range]", "0"},
		{"an error at last", "-0/0 -3/1 -7/2 -7/2", "[state]", "3"},
	}
	for _, c := range cases {
		made, code := impl.MakeChanges(f, d, changes(c.list))
		wantEqual(t, shown(t, code, made), c.want, "make:", c.name)
		bad, code := impl.FirstBadChange(f, d, changes(c.list))
		wantEqual(t, shown(t, code, bad), c.bad, "first bad:", c.name)
	}
}

// TestMakeMostChanges makes MaxChanges changes, and one more.
func TestMakeMostChanges(t *testing.T) {
	f, d := mustReadFrame(t, pairFrame), pinned(0, 0)
	bad := manyChanges(2400)
	bad[2399].Put = true
	far := append(changes("+8/0"), manyChanges(2400)...)
	cases := []struct {
		name       string
		f          impl.Frame
		d          impl.Drum
		list       []impl.Change
		want, find string
	}{
		{"one less", f, d, manyChanges(2399), "0:1 1:1", "[notfound]"},
		{"MaxChanges", f, d, manyChanges(2400), "0:1", "[notfound]"},
		{"one more", f, d, manyChanges(2401), "[limit]", "[limit]"},
		{"a bad one at last", f, d, bad, "[state]", "2399"},
		{"a bad one first, and one more", f, d, far, "[limit]", "[limit]"},
		{"a bad one first", f, d, far[:2400], "[range]", "0"},
		{"one more, and no frame", frame(8), d, manyChanges(2401), "[invalid]", "[invalid]"},
		{"one more, and no drum", f, pinned(0, 3), manyChanges(2401), "[invalid]", "[invalid]"},
		{"no drum", f, pinned(8, 0), changes("+8/0"), "[invalid]", "[invalid]"},
	}
	for _, c := range cases {
		made, code := impl.MakeChanges(c.f, c.d, c.list)
		wantEqual(t, shown(t, code, made), c.want, "make:", c.name)
		index, code := impl.FirstBadChange(c.f, c.d, c.list)
		wantEqual(t, shown(t, code, index), c.find, "first bad:", c.name)
	}
}

func TestUndoChanges(t *testing.T) {
	for text, want := range map[string]string{
		"":                        "",
		"+0/0":                    "-0/0",
		"-0/0":                    "+0/0",
		"-0/0 +2/0":               "-2/0 +0/0",
		"+1/2 +1/2 -3/4":          "+3/4 -1/2 -1/2",
		"+5/1 -5/1 +5/1":          "-5/1 +5/1 -5/1",
		"+95/23 -96/24":           "+96/24 -95/23",
		"--32768/-128 +32767/127": "-32767/127 +-32768/-128",
	} {
		undone, code := impl.UndoChanges(changes(text))
		wantEqual(t, shown(t, code, undone), want, "undo", text)
	}
	undone, code := impl.UndoChanges(manyChanges(2400))
	slices.Reverse(undone)
	for i := range undone {
		undone[i].Put = !undone[i].Put
	}
	wantEqual(t, shown(t, code, undone), rawChanges(manyChanges(2400)), "undo MaxChanges changes")
	undone, code = impl.UndoChanges(manyChanges(2401))
	wantEqual(t, shown(t, code, undone), "[limit]", "undo one more")
}

func TestChangeCost(t *testing.T) {
	f := mustReadFrame(t, pairFrame)
	cases := []struct {
		name string
		a, b impl.Drum
		want string
	}{
		{"no pins", impl.Drum{}, impl.Drum{}, "0"},
		{"equal ones", pinned(3, 1), pinned(3, 1), "0"},
		{"a pin more", pinned(3, 1), pinned(3, 1, 4, 2), "1"},
		{"a pin moved by a step", pinned(3, 1), pinned(4, 1), "2"},
		{"a pin moved by a track", pinned(3, 1), pinned(3, 2), "2"},
		{"all pins", fullDrum(f), impl.Drum{}, "24"},
		{"no such track", pinned(3, 3), impl.Drum{}, "[invalid]"},
		{"no such step", impl.Drum{}, pinned(8, 0), "[invalid]"},
	}
	for _, c := range cases {
		cost, code := impl.ChangeCost(f, c.a, c.b)
		wantEqual(t, shown(t, code, cost), c.want, "cost:", c.name)
		cost, code = impl.ChangeCost(f, c.b, c.a)
		wantEqual(t, shown(t, code, cost), c.want, "cost the other way:", c.name)
	}
	most := likeHammers(96, 24, 0, 2, 20)
	cost, code := impl.ChangeCost(most, fullDrum(most), impl.Drum{})
	wantEqual(t, shown(t, code, cost), "2304", "all pins of the greatest drum")
}

func TestTurnedCost(t *testing.T) {
	f := mustReadFrame(t, pairFrame)
	cases := []struct {
		name string
		a, b impl.Drum
		want string
	}{
		{"no pins", impl.Drum{}, impl.Drum{}, "0; 0"},
		{"equal ones", pinned(3, 1, 5, 0), pinned(3, 1, 5, 0), "0; 0"},
		{"turned by a step", pinned(3, 1, 5, 0), pinned(2, 1, 4, 0), "0; 1"},
		{"turned back by a step", pinned(3, 1, 5, 0), pinned(4, 1, 6, 0), "0; 7"},
		{"turned over the end", pinned(0, 2, 1, 0), pinned(6, 2, 7, 0), "0; 2"},
		{"two turns that cost as much", pinned(0, 0, 4, 0), pinned(1, 0, 5, 0), "0; 3"},
		{"all turns cost as much", pinned(3, 1), pinned(5, 0), "2; 0"},
		{"all turns of a full drum", pinned(3, 1), fullDrum(f), "23; 0"},
		{"all turns of no pins", pinned(3, 1, 4, 1), impl.Drum{}, "2; 0"},
		{"a pin on the right track costs least", pinned(0, 0, 1, 1), pinned(2, 0), "1; 6"},
		{"of two pins that fit the lesser turn", pinned(0, 0, 6, 0), pinned(2, 0), "1; 4"},
		{"of two turns that cost as much, not the first of all", pinned(0, 0, 1, 0, 4, 0), pinned(6, 0, 7, 0, 2, 0, 1, 1), "1; 2"},
		{"no such track", pinned(3, 3), impl.Drum{}, "[invalid]"},
		{"no such step", impl.Drum{}, pinned(8, 0), "[invalid]"},
	}
	for _, c := range cases {
		cost, by, code := impl.TurnedCost(f, c.a, c.b)
		wantEqual(t, shown(t, code, cost, by), c.want, "turned:", c.name)
	}
	great := mustReadFrame(t, ladderFrame)
	cost, by, code := impl.TurnedCost(great, pinned(0, 0), pinned(1, 0))
	wantEqual(t, shown(t, code, cost, by), "0; 95", "all steps but one of the greatest drum")
	small := mustReadFrame(t, "2 c2/2")
	cost, by, code = impl.TurnedCost(small, pinned(0, 0), pinned(1, 0))
	wantEqual(t, shown(t, code, cost, by), "0; 1", "one step of the least drum")
}

func TestCostTable(t *testing.T) {
	f := mustReadFrame(t, ladderFrame)
	cases := []struct {
		name string
		list []impl.Drum
		want string
	}{
		{"nil", nil, "[]"},
		{"no drums", []impl.Drum{}, "[]"},
		{"one", ladder(5), "[[0]]"},
		{"equal ones", ladder(5, 5, 5), "[[0 0 0] [0 0 0] [0 0 0]]"},
		{"two", ladder(5, 3), "[[0 2] [2 0]]"},
		{"in their order", ladder(7, 0, 96, 1), "[[0 7 89 6] [7 0 96 1] [89 96 0 95] [6 1 95 0]]"},
		{"MaxDrums drums", apartBy(8, 1), "[[0 2 2 2 2 2 2 2] [2 0 2 2 2 2 2 2] [2 2 0 2 2 2 2 2] [2 2 2 0 2 2 2 2] [2 2 2 2 0 2 2 2] [2 2 2 2 2 0 2 2] [2 2 2 2 2 2 0 2] [2 2 2 2 2 2 2 0]]"},
		{"one more", apartBy(9, 1), "[limit]"},
		{"one more, and no drum", append(apartBy(8, 1), pinned(0, 1)), "[invalid]"},
		{"no drum", []impl.Drum{{}, pinned(0, 1), {}}, "[invalid]"},
	}
	for _, c := range cases {
		table, code := impl.CostTable(f, c.list)
		wantEqual(t, shown(t, code, table), c.want, "table:", c.name)
	}
}

func TestOrderCost(t *testing.T) {
	f := mustReadFrame(t, ladderFrame)
	cases := []struct {
		name  string
		list  []impl.Drum
		order []int64
		want  string
	}{
		{"nil of no drums", nil, nil, "0"},
		{"an empty list of no drums", nil, []int64{}, "0"},
		{"an index of no drums", nil, []int64{0}, "[state]"},
		{"one", ladder(5), []int64{0}, "0"},
		{"none of one", ladder(5), nil, "[state]"},
		{"one twice", ladder(5), []int64{0, 0}, "[state]"},
		{"forward", ladder(2, 5, 11), []int64{0, 1, 2}, "9"},
		{"backward", ladder(2, 5, 11), []int64{2, 1, 0}, "9"},
		{"there and back", ladder(2, 5, 11), []int64{1, 2, 0}, "15"},
		{"one that lacks the last index", ladder(2, 5, 11), []int64{0, 1}, "[state]"},
		{"one that lacks the first index", ladder(2, 5, 11), []int64{1, 2}, "[state]"},
		{"one that lacks an index, and has another one twice", ladder(2, 5, 11), []int64{0, 1, 0}, "[state]"},
		{"one that is too long", ladder(2, 5, 11), []int64{0, 1, 2, 0}, "[state]"},
		{"one that is far too long", ladder(2, 5, 11), numbersBy(96, 0, 1), "[state]"},
		{"the last index, and one more", ladder(2, 5, 11), []int64{0, 1, 3}, "[state]"},
		{"one more than all", ladder(2, 5, 11), []int64{0, 1, 2, 3}, "[state]"},
		{"less than 0", ladder(2, 5, 11), []int64{0, -1, 2}, "[state]"},
		{"the least number", ladder(2, 5, 11), []int64{math.MinInt64, 1, 2}, "[state]"},
		{"the greatest number", ladder(2, 5, 11), []int64{0, 1, math.MaxInt64}, "[state]"},
		{"a number of more bits", ladder(2, 5, 11), []int64{1 << 32, 1, 2}, "[state]"},
		{"equal drums", ladder(5, 5, 5, 5), []int64{3, 1, 0, 2}, "0"},
		{"MaxDrums drums", ladder(0, 1, 2, 3, 4, 5, 6, 7), []int64{7, 0, 6, 1, 5, 2, 4, 3}, "28"},
		{"MaxDrums drums, and no order", ladder(0, 1, 2, 3, 4, 5, 6, 7), []int64{7, 0, 6, 1, 5, 2, 4, 4}, "[state]"},
		{"one more, and no order", ladder(0, 1, 2, 3, 4, 5, 6, 7, 8), nil, "[limit]"},
		{"one more", ladder(0, 1, 2, 3, 4, 5, 6, 7, 8), numbersBy(9, 0, 1), "[limit]"},
		{"no drum, and no order", []impl.Drum{pinned(0, 1)}, nil, "[invalid]"},
	}
	for _, c := range cases {
		cost, code := impl.OrderCost(f, c.list, c.order)
		wantEqual(t, shown(t, code, cost), c.want, "cost:", c.name)
		checkOrderAt(t, f, c.list, c.order, cost, code)
	}
}

// checkOrderAt asks CheckOrder for the limits beside a cost that OrderCost has returned, or for its error.
func checkOrderAt(t *testing.T, f impl.Frame, list []impl.Drum, order []int64, cost, code int64) {
	t.Helper()
	for most, want := range map[int64]bool{math.MinInt64: false, -1: false, cost - 1: false, cost: true, cost + 1: true, math.MaxInt64: true} {
		is, other := impl.CheckOrder(f, list, order, most)
		switch code {
		case impl.OK:
			wantEqual(t, answers(other, is), answers(impl.OK, want), "check", order, "at most", most)
		case impl.ErrState:
			wantEqual(t, answers(other, is), "ok; false", "check no order", order, "at most", most)
		default:
			wantEqual(t, answers(other, is), answers(code, false), "check", order, "at most", most)
		}
	}
}

func TestBestOrder(t *testing.T) {
	f := mustReadFrame(t, ladderFrame)
	cases := []struct {
		name  string
		list  []impl.Drum
		first int64
		want  string
	}{
		{"no drums, with any one", nil, -1, "[notfound]"},
		{"no drums in a list", []impl.Drum{}, -1, "[notfound]"},
		{"no drums, with the first one", nil, 0, "[range]"},
		{"no drums, with less than any one", nil, -2, "[range]"},
		{"one, with any one", ladder(5), -1, "[0]; 0"},
		{"one, with the first one", ladder(5), 0, "[0]; 0"},
		{"one, with one more", ladder(5), 1, "[range]"},
		{"both ways cost as much", ladder(5, 3), -1, "[0 1]; 2"},
		{"the other way", ladder(5, 3), 1, "[1 0]; 2"},
		{"the cheaper one", ladder(2, 0, 4), -1, "[1 0 2]; 4"},
		{"two that cost as much, from the first one", ladder(2, 0, 4), 0, "[0 1 2]; 6"},
		{"the last index", ladder(2, 0, 4), 2, "[2 0 1]; 4"},
		{"one more than the last index", ladder(2, 0, 4), 3, "[range]"},
		{"less than -1", ladder(2, 0, 4), -2, "[range]"},
		{"the least number", ladder(2, 0, 4), math.MinInt64, "[range]"},
		{"the greatest number", ladder(2, 0, 4), math.MaxInt64, "[range]"},
		{"a number of more bits", ladder(2, 0, 4), 1 << 32, "[range]"},
		{"-1 with more bits", ladder(2, 0, 4), 1<<32 - 1, "[range]"},
		{"not the nearest one", ladder(5, 4, 7, 0), 0, "[0 2 1 3]; 9"},
		{"not the nearest one, with any one", ladder(5, 4, 7, 0), -1, "[2 0 1 3]; 7"},
		{"equal drums", ladder(5, 5, 5, 5, 5, 5, 5, 5), -1, "[0 1 2 3 4 5 6 7]; 0"},
		{"equal drums, with the last one", ladder(5, 5, 5, 5, 5, 5, 5, 5), 7, "[7 0 1 2 3 4 5 6]; 0"},
		{"some equal ones", ladder(9, 5, 9, 5), -1, "[0 2 1 3]; 4"},
		{"all cost as much", apartBy(8, 3), -1, "[0 1 2 3 4 5 6 7]; 42"},
		{"all cost as much, with one between", apartBy(8, 3), 4, "[4 0 1 2 3 5 6 7]; 42"},
		{"MaxDrums drums", ladder(70, 10, 60, 0, 50, 20, 40, 30), -1, "[0 2 4 6 7 5 1 3]; 70"},
		{"MaxDrums drums, with one between", ladder(70, 10, 60, 0, 50, 20, 40, 30), 6, "[6 0 2 4 7 5 1 3]; 100"},
		{"MaxDrums drums, with one just in the middle", ladder(70, 10, 60, 0, 50, 30, 40, 35), 7, "[7 0 2 4 6 5 1 3]; 105"},
		{"one more", ladder(0, 1, 2, 3, 4, 5, 6, 7, 8), 0, "[limit]"},
		{"one more, and out of range", ladder(0, 1, 2, 3, 4, 5, 6, 7, 8), 9, "[limit]"},
		{"one more, and no drum", append(ladder(0, 1, 2, 3, 4, 5, 6, 7), pinned(0, 1)), 9, "[invalid]"},
		{"no drum, and out of range", []impl.Drum{pinned(0, 1)}, 1, "[invalid]"},
	}
	for _, c := range cases {
		order, cost, code := impl.BestOrder(f, c.list, c.first)
		wantEqual(t, shown(t, code, order, cost), c.want, "best:", c.name)
	}
	order, cost, code := impl.BestOrder(frame(97, 24, 1), nil, -1)
	wantEqual(t, shown(t, code, order, cost), "[invalid]", "best: no frame, and no drums")
}

func TestBestCircle(t *testing.T) {
	f := mustReadFrame(t, ladderFrame)
	cases := []struct {
		name string
		list []impl.Drum
		want string
	}{
		{"no drums", nil, "[notfound]"},
		{"no drums in a list", []impl.Drum{}, "[notfound]"},
		{"one", ladder(5), "[0]; 0"},
		{"two", ladder(5, 3), "[0 1]; 4"},
		{"three, whose circles cost as much", ladder(2, 0, 4), "[0 1 2]; 8"},
		{"begins with the drum 0, but goes on with the cheapest", ladder(2, 0, 4, 1), "[0 1 3 2]; 8"},
		{"of several the first one", ladder(0, 4, 2, 6), "[0 1 3 2]; 12"},
		{"the way back counts", ladder(0, 9, 1, 8), "[0 1 3 2]; 18"},
		{"equal drums", ladder(5, 5, 5, 5, 5, 5, 5, 5), "[0 1 2 3 4 5 6 7]; 0"},
		{"some equal ones", ladder(9, 5, 9, 5), "[0 1 3 2]; 8"},
		{"all cost as much", apartBy(8, 2), "[0 1 2 3 4 5 6 7]; 32"},
		{"MaxDrums drums", ladder(70, 10, 60, 0, 50, 20, 40, 30), "[0 1 3 5 7 6 4 2]; 140"},
		{"one more", ladder(0, 1, 2, 3, 4, 5, 6, 7, 8), "[limit]"},
		{"no drum", []impl.Drum{{}, pinned(0, 1)}, "[invalid]"},
		{"one more, and no drum", append(ladder(0, 1, 2, 3, 4, 5, 6, 7), pinned(0, 1)), "[invalid]"},
	}
	for _, c := range cases {
		order, cost, code := impl.BestCircle(f, c.list)
		wantEqual(t, shown(t, code, order, cost), c.want, "circle:", c.name)
	}
	order, cost, code := impl.BestCircle(frame(97, 24, 1), nil)
	wantEqual(t, shown(t, code, order, cost), "[invalid]", "circle: no frame, and no drums")
}

func TestNearestOrder(t *testing.T) {
	f := mustReadFrame(t, ladderFrame)
	cases := []struct {
		name  string
		list  []impl.Drum
		first int64
		want  string
	}{
		{"no drums, with any one", nil, -1, "[notfound]"},
		{"no drums in a list", []impl.Drum{}, -1, "[notfound]"},
		{"no drums, with the first one", nil, 0, "[range]"},
		{"no drums, with less than any one", nil, -2, "[range]"},
		{"one", ladder(5), 0, "[0]; 0"},
		{"one, with any one", ladder(5), -1, "[range]"},
		{"one, with one more", ladder(5), 1, "[range]"},
		{"the least index of two", ladder(3, 1, 5), 0, "[0 1 2]; 6"},
		{"the least index of two, the other way", ladder(3, 5, 1), 0, "[0 1 2]; 6"},
		{"the nearest one", ladder(3, 6, 1), 0, "[0 2 1]; 7"},
		{"with any one", ladder(2, 0, 4), -1, "[range]"},
		{"the last index", ladder(2, 0, 4), 2, "[2 0 1]; 4"},
		{"one more than the last index", ladder(2, 0, 4), 3, "[range]"},
		{"less than -1", ladder(2, 0, 4), -2, "[range]"},
		{"the least number", ladder(2, 0, 4), math.MinInt64, "[range]"},
		{"the greatest number", ladder(2, 0, 4), math.MaxInt64, "[range]"},
		{"a number of more bits", ladder(2, 0, 4), 1<<32 + 1, "[range]"},
		{"not the best one", ladder(5, 4, 7, 0), 0, "[0 1 2 3]; 11"},
		{"equal drums", ladder(5, 5, 5, 5, 5, 5, 5, 5), 3, "[3 0 1 2 4 5 6 7]; 0"},
		{"all cost as much", apartBy(8, 3), 4, "[4 0 1 2 3 5 6 7]; 42"},
		{"MaxDrums drums", ladder(70, 10, 60, 0, 50, 20, 40, 30), 7, "[7 5 1 3 6 4 2 0]; 100"},
		{"one more", ladder(0, 1, 2, 3, 4, 5, 6, 7, 8), 0, "[limit]"},
		{"one more, with any one", ladder(0, 1, 2, 3, 4, 5, 6, 7, 8), -1, "[limit]"},
		{"no drum, with any one", []impl.Drum{pinned(0, 1)}, -1, "[invalid]"},
	}
	for _, c := range cases {
		order, cost, code := impl.NearestOrder(f, c.list, c.first)
		wantEqual(t, shown(t, code, order, cost), c.want, "nearest:", c.name)
	}
	order, cost, code := impl.NearestOrder(frame(97, 24, 1), nil, -1)
	wantEqual(t, shown(t, code, order, cost), "[invalid]", "nearest: no frame, and no drums")
}

func TestTreeOf(t *testing.T) {
	f := mustReadFrame(t, ladderFrame)
	cases := []struct {
		name string
		list []impl.Drum
		want string
	}{
		{"no drums", nil, "[notfound]"},
		{"no drums in a list", []impl.Drum{}, "[notfound]"},
		{"one", ladder(5), "[]; 0"},
		{"two", ladder(5, 3), "[[0 1]]; 2"},
		{"a way", ladder(0, 2, 4), "[[0 1] [1 2]]; 4"},
		{"a star", ladder(2, 0, 4), "[[0 1] [0 2]]; 4"},
		{"ordered by their costs", ladder(0, 10, 11), "[[1 2] [0 1]]; 11"},
		{"pairs that are connected already", ladder(0, 1, 2, 10), "[[0 1] [1 2] [2 3]]; 10"},
		{"by the first index, and then by the second one", ladder(3, 0, 2, 1), "[[0 2] [1 3] [2 3]]; 3"},
		{"two parts that are connected at last", ladder(0, 20, 1, 21), "[[0 2] [1 3] [1 2]]; 21"},
		{"equal drums", ladder(5, 5, 5, 5), "[[0 1] [0 2] [0 3]]; 0"},
		{"some equal ones", ladder(9, 5, 9, 5), "[[0 2] [1 3] [0 1]]; 4"},
		{"all cost as much", apartBy(8, 2), "[[0 1] [0 2] [0 3] [0 4] [0 5] [0 6] [0 7]]; 28"},
		{"MaxDrums drums", ladder(70, 10, 60, 0, 50, 20, 40, 30), "[[0 2] [1 3] [1 5] [2 4] [4 6] [5 7] [6 7]]; 70"},
		{"one more", ladder(0, 1, 2, 3, 4, 5, 6, 7, 8), "[limit]"},
		{"no drum", []impl.Drum{{}, pinned(0, 1)}, "[invalid]"},
	}
	for _, c := range cases {
		tree, cost, code := impl.TreeOf(f, c.list)
		wantEqual(t, shown(t, code, tree, cost), c.want, "tree:", c.name)
		if code != impl.OK {
			continue
		}
		is, code := impl.CheckTree(f, c.list, tree)
		wantEqual(t, answers(code, is), "ok; true", "check tree:", c.name)
	}
	tree, cost, code := impl.TreeOf(frame(97, 24, 1), nil)
	wantEqual(t, shown(t, code, tree, cost), "[invalid]", "tree: no frame, and no drums")
}

func TestCheckTree(t *testing.T) {
	f := mustReadFrame(t, ladderFrame)
	far := [2]int64{math.MinInt64, math.MaxInt64}
	cases := []struct {
		name string
		list []impl.Drum
		tree [][2]int64
		want string
	}{
		{"no drums", nil, nil, "ok; false"},
		{"no drums, and a pair", nil, [][2]int64{{0, 1}}, "ok; false"},
		{"one", ladder(5), nil, "ok; true"},
		{"one, and an empty list", ladder(5), [][2]int64{}, "ok; true"},
		{"one, and a pair", ladder(5), [][2]int64{{0, 0}}, "ok; false"},
		{"two", ladder(5, 3), [][2]int64{{0, 1}}, "ok; true"},
		{"two, and the greater one first", ladder(5, 3), [][2]int64{{1, 0}}, "ok; false"},
		{"two, and no pair", ladder(5, 3), nil, "ok; false"},
		{"two, and a drum with itself", ladder(5, 3), [][2]int64{{1, 1}}, "ok; false"},
		{"two, and a pair twice", ladder(5, 3), [][2]int64{{0, 1}, {0, 1}}, "ok; false"},
		{"a way", ladder(0, 2, 4, 9), [][2]int64{{0, 1}, {1, 2}, {2, 3}}, "ok; true"},
		{"a way in any order", ladder(0, 2, 4, 9), [][2]int64{{2, 3}, {0, 1}, {1, 2}}, "ok; true"},
		{"a way, and the greater one first", ladder(0, 2, 4, 9), [][2]int64{{2, 3}, {1, 0}, {1, 2}}, "ok; false"},
		{"a pair too few", ladder(0, 2, 4, 9), [][2]int64{{0, 1}, {1, 2}}, "ok; false"},
		{"a pair too many", ladder(0, 2, 4, 9), [][2]int64{{0, 1}, {1, 2}, {2, 3}, {0, 3}}, "ok; false"},
		{"a pair twice", ladder(0, 2, 4, 9), [][2]int64{{0, 1}, {2, 3}, {0, 1}}, "ok; false"},
		{"a circle, and a drum that is not connected", ladder(0, 0, 0, 0), [][2]int64{{0, 1}, {1, 2}, {0, 2}}, "ok; false"},
		{"a drum with itself", ladder(0, 0, 0, 0), [][2]int64{{0, 1}, {1, 2}, {3, 3}}, "ok; false"},
		{"an index of one more", ladder(0, 0, 0, 0), [][2]int64{{0, 1}, {1, 2}, {3, 4}}, "ok; false"},
		{"an index below 0", ladder(0, 0, 0, 0), [][2]int64{{0, 1}, {1, 2}, {-1, 3}}, "ok; false"},
		{"the least and the greatest number", ladder(0, 0, 0, 0), [][2]int64{{0, 1}, {1, 2}, far}, "ok; false"},
		{"the least and the greatest number first", ladder(0, 0), [][2]int64{far}, "ok; false"},
		{"the least number twice", ladder(0, 0), [][2]int64{{math.MinInt64, math.MinInt64}}, "ok; false"},
		{"the greatest number twice", ladder(0, 0), [][2]int64{{math.MaxInt64, math.MaxInt64}}, "ok; false"},
		{"a number of more bits", ladder(0, 0), [][2]int64{{0, 1<<32 + 1}}, "ok; false"},
		{"costs too much by one", ladder(0, 1, 2), [][2]int64{{0, 1}, {0, 2}}, "ok; false"},
		{"costs too much by far", ladder(0, 2, 4, 90), [][2]int64{{0, 3}, {1, 3}, {2, 3}}, "ok; false"},
		{"another one that costs as much", ladder(0, 2, 2), [][2]int64{{0, 2}, {1, 2}}, "ok; true"},
		{"equal drums", ladder(5, 5, 5, 5), [][2]int64{{2, 3}, {1, 3}, {0, 2}}, "ok; true"},
		{"all cost as much", apartBy(8, 2), [][2]int64{{6, 7}, {5, 6}, {4, 5}, {3, 4}, {2, 3}, {1, 2}, {0, 1}}, "ok; true"},
		{"all cost as much, and a circle", apartBy(8, 2), [][2]int64{{6, 7}, {5, 6}, {4, 5}, {3, 4}, {2, 3}, {0, 1}, {0, 1}}, "ok; false"},
		{"one more", ladder(0, 1, 2, 3, 4, 5, 6, 7, 8), [][2]int64{{0, 1}, {1, 2}, {2, 3}, {3, 4}, {4, 5}, {5, 6}, {6, 7}, {7, 8}}, "limit; false"},
		{"one more, and no tree", ladder(0, 1, 2, 3, 4, 5, 6, 7, 8), nil, "limit; false"},
		{"no drum", []impl.Drum{{}, pinned(0, 1)}, [][2]int64{{0, 1}}, "invalid; false"},
	}
	for _, c := range cases {
		is, code := impl.CheckTree(f, c.list, c.tree)
		wantEqual(t, answers(code, is), c.want, "check tree:", c.name)
	}
	is, code := impl.CheckTree(frame(97, 24, 1), nil, nil)
	wantEqual(t, answers(code, is), "invalid; false", "check tree: no frame, and no drums")
}

func TestSharedPins(t *testing.T) {
	f := mustReadFrame(t, pairFrame)
	one, two, three := pinned(0, 0, 3, 1, 7, 2), pinned(0, 0, 3, 2, 7, 2), pinned(7, 2, 3, 1)
	// Shared pins, union, and the greatest number of pins.
	cases := []struct {
		name                string
		list                []impl.Drum
		shared, union, most string
	}{
		{"nil", nil, "[notfound]", "", "0"},
		{"no drums", []impl.Drum{}, "[notfound]", "", "0"},
		{"one", []impl.Drum{one}, "0:1 3:2 7:4", "0:1 3:2 7:4", "3"},
		{"one without pins", []impl.Drum{{}}, "", "", "0"},
		{"two", []impl.Drum{one, two}, "0:1 7:4", "0:1 3:6 7:4", "3"},
		{"three", []impl.Drum{one, two, three}, "7:4", "0:1 3:6 7:4", "3"},
		{"the last one has least", []impl.Drum{one, one, {}}, "", "0:1 3:2 7:4", "3"},
		{"the first one has least", []impl.Drum{{}, three, one}, "", "0:1 3:2 7:4", "3"},
		{"the first one has most", []impl.Drum{one, three, {}}, "", "0:1 3:2 7:4", "3"},
		{"the one between has most", []impl.Drum{three, one, {}}, "", "0:1 3:2 7:4", "3"},
		{"equal ones", []impl.Drum{two, two, two}, "0:1 3:4 7:4", "0:1 3:4 7:4", "3"},
		{"clashes", []impl.Drum{pinned(0, 0, 1, 0), pinned(1, 0, 2, 0)}, "1:1", "0:1 1:1 2:1", "2"},
		{"all pins", []impl.Drum{fullDrum(f), one}, "0:1 3:2 7:4", "0:7 1:7 2:7 3:7 4:7 5:7 6:7 7:7", "24"},
		{"MaxDrums drums", append(slices.Repeat([]impl.Drum{one}, 7), three), "3:2 7:4", "0:1 3:2 7:4", "3"},
		{"one more", slices.Repeat([]impl.Drum{one}, 9), "[limit]", "[limit]", "[limit]"},
		{"no drum", []impl.Drum{one, pinned(0, 3)}, "[invalid]", "[invalid]", "[invalid]"},
		{"one more, and no drum", append(slices.Repeat([]impl.Drum{one}, 8), pinned(8, 0)), "[invalid]", "[invalid]", "[invalid]"},
	}
	for _, c := range cases {
		shared, code := impl.SharedPins(f, c.list)
		wantEqual(t, shown(t, code, shared), c.shared, "shared:", c.name)
		union, code := impl.UnionOf(f, c.list)
		wantEqual(t, shown(t, code, union), c.union, "union:", c.name)
		most, code := impl.PinsNeeded(f, c.list)
		wantEqual(t, shown(t, code, most), c.most, "needed:", c.name)
	}
	none := frame(97, 24, 1)
	_, noShared := impl.SharedPins(none, nil)
	_, noUnion := impl.UnionOf(none, nil)
	_, noMost := impl.PinsNeeded(none, nil)
	wantEqual(t, fmt.Sprint(noShared, noUnion, noMost), "1 1 1", "no frame, and no drums")
}

func TestCanShare(t *testing.T) {
	f := mustReadFrame(t, "8 c2/3 e2/1 c2/8")
	cases := []struct {
		name string
		a, b impl.Drum
		want string
	}{
		{"no pins", impl.Drum{}, impl.Drum{}, "ok; true"},
		{"equal ones", pinned(0, 0, 3, 0), pinned(0, 0, 3, 0), "ok; true"},
		{"just ready", pinned(0, 0), pinned(3, 0), "ok; true"},
		{"clash only together", pinned(0, 0), pinned(2, 0), "ok; false"},
		{"clash only together, at the next step", pinned(0, 0), pinned(1, 0), "ok; false"},
		{"just ready around the end", pinned(5, 0), pinned(0, 0), "ok; true"},
		{"clash only together around the end", pinned(6, 0), pinned(0, 0), "ok; false"},
		{"a hammer that is always ready", pinned(0, 1), pinned(1, 1), "ok; true"},
		{"tracks of one pitch", pinned(0, 0), pinned(1, 2), "ok; true"},
		{"ready in all steps, the same pin", pinned(4, 2), pinned(4, 2), "ok; true"},
		{"ready in all steps, another pin", pinned(4, 2), pinned(0, 2), "ok; false"},
		{"a clash in the first one", pinned(0, 0, 1, 0), impl.Drum{}, "ok; false"},
		{"a clash in the second one", impl.Drum{}, pinned(0, 0, 1, 0), "ok; false"},
		{"a clash in both", pinned(0, 0, 1, 0), pinned(0, 0, 1, 0), "ok; false"},
		{"one clash of several pins", pinned(0, 0, 4, 1, 4, 2), pinned(3, 0, 5, 1, 5, 2), "ok; false"},
		{"no such track", pinned(0, 3), impl.Drum{}, "invalid; false"},
		{"no such step", impl.Drum{}, pinned(8, 0), "invalid; false"},
	}
	for _, c := range cases {
		can, code := impl.CanShare(f, c.a, c.b)
		wantEqual(t, answers(code, can), c.want, "share:", c.name)
		can, code = impl.CanShare(f, c.b, c.a)
		wantEqual(t, answers(code, can), c.want, "share the other way:", c.name)
	}
}

func TestShareGroups(t *testing.T) {
	f := mustReadFrame(t, "8 c2/3 e2/1")
	clash := pinned(0, 0, 1, 0)
	at := func(steps ...int) []impl.Drum {
		list := []impl.Drum{}
		for _, step := range steps {
			list = append(list, pinned(step, 0))
		}
		return list
	}
	cases := []struct {
		name string
		list []impl.Drum
		want string
	}{
		{"nil", nil, "[]; 0"},
		{"no drums", []impl.Drum{}, "[]; 0"},
		{"one", at(0), "[0]; 1"},
		{"one without pins", []impl.Drum{{}}, "[0]; 1"},
		{"equal ones", at(4, 4, 4), "[0 0 0]; 1"},
		{"two that share", at(0, 3), "[0 0]; 1"},
		{"two that clash together", at(0, 2), "[0 1]; 2"},
		{"the third one with the first group", at(0, 2, 3), "[0 1 0]; 2"},
		{"the third one with the second group", at(0, 2, 7), "[0 1 1]; 2"},
		{"with the union, not with the first drum of a group", at(0, 3, 5), "[0 0 1]; 2"},
		{"with the union, not with the last drum of a group", at(0, 3, 6), "[0 0 1]; 2"},
		{"the first group of two", at(0, 1, 4), "[0 1 0]; 2"},
		{"three groups", at(0, 1, 2, 3, 4, 5), "[0 1 2 0 1 2]; 3"},
		{"MaxDrums drums", at(0, 1, 2, 3, 4, 5, 6, 7), "[0 1 2 0 1 2 3 4]; 5"},
		{"a clash alone", []impl.Drum{clash}, "[0]; 1"},
		{"a clash first", []impl.Drum{clash, {}, pinned(4, 0)}, "[0 1 1]; 2"},
		{"a clash between", []impl.Drum{{}, clash, {}, pinned(4, 0)}, "[0 1 0 0]; 2"},
		{"a clash at last", []impl.Drum{{}, pinned(4, 0), clash}, "[0 0 1]; 2"},
		{"equal ones with a clash", []impl.Drum{clash, clash, clash}, "[0 1 2]; 3"},
		{"equal ones with a clash, and others", []impl.Drum{clash, {}, clash, {}, pinned(0, 0), pinned(1, 0)}, "[0 1 2 1 1 3]; 4"},
		{"one more", slices.Repeat([]impl.Drum{{}}, 9), "[limit]"},
		{"no drum", []impl.Drum{{}, pinned(0, 2)}, "[invalid]"},
		{"one more, and no drum", append(slices.Repeat([]impl.Drum{{}}, 8), pinned(8, 0)), "[invalid]"},
	}
	for _, c := range cases {
		given, count, code := impl.ShareGroups(f, c.list)
		wantEqual(t, shown(t, code, given, count), c.want, "groups:", c.name)
	}
	given, count, code := impl.ShareGroups(frame(97, 24, 1), nil)
	wantEqual(t, shown(t, code, given, count), "[invalid]", "groups: no frame, and no drums")
}

func TestChangesText(t *testing.T) {
	for _, text := range []string{"", "+0/0", "-0/0", "+95/23", "-95/23", "-0/0 +2/0", "+10/1 +9/10 -1/2 -1/2 +0/0", "+1/1 +1/1"} {
		wantEqual(t, impl.ChangesText(changes(text)), text, "text")
		read, code := impl.ReadChanges(text)
		wantEqual(t, shown(t, code, read), text, "read", text)
	}
	for _, text := range []string{"+96/0", "-96/0", "+-1/0", "--1/0", "+0/24", "-0/24", "+0/-1", "+32767/0", "+-32768/0", "+0/127", "+0/-128", "+0/0 +96/0", "+96/0 +0/0", "+0/0 -0/24 +0/0", "+352/0"} {
		wantEqual(t, impl.ChangesText(changes(text)), "", "text of", text)
		read, code := impl.ReadChanges(text)
		wantEqual(t, shown(t, code, read), "[syntax]", "read", text)
	}
	most := strings.Repeat("+1/0 -1/0 ", 1200)
	wantEqual(t, impl.ChangesText(manyChanges(2400)), strings.TrimSpace(most), "text of MaxChanges changes")
	wantEqual(t, impl.ChangesText(manyChanges(2401)), "", "text of one more")
	read, code := impl.ReadChanges(strings.TrimSpace(most))
	wantEqual(t, shown(t, code, read), rawChanges(manyChanges(2400)), "read MaxChanges changes")
	for _, end := range []string{"", " ", "+1/0", "+1/0 -1/0", "+1/0 ", "+1/0 x"} {
		read, code = impl.ReadChanges(most + end)
		wantEqual(t, shown(t, code, read), "[syntax]", "read MaxChanges changes, and", end)
	}
}

func TestNoChangesTexts(t *testing.T) {
	for _, text := range []string{
		" ", "  ", "\n", "+", "-", "/", "+/", "-/", "0/0", "+0", "+0/", "+/0", "+0/0/0", "+0//0", "0", "x",
		" +0/0", "+0/0 ", "+0/0  -1/0", "+0/0\n", "\n+0/0", "+0/0\n-1/0", "+0/0\t-1/0", "+0/0,-1/0", "+0/0-1/0",
		"+00/0", "+01/0", "+0/00", "+0/01", "+095/0", "+0/023", "++0/0", "--0/0", "+-0/0", "-+0/0", "+0/+0", "+0/-0", "-0/-0", "++1/0", "+-1/0",
		"+ 0/0", "+0 /0", "+0/ 0", "+0:0", "+0\\0", "+0.0", "+0.0/0", "+0/0.0", "+1e1/0", "+0x1/0", "+1_0/0", "+0/1_0", "+٣/0", "\u22120/0", "\uff0b0/0", "+0/0\x00",
		"+96/0", "+100/0", "+0/24", "+0/30", "+0/100", "+256/0", "+0/256", "+65536/0", "+4294967296/0", "+9223372036854775807/0", "+9223372036854775808/0", "+0/9223372036854775808", "+99999999999999999999/0",
		"put 0/0", "+a/0", "+0/a", "x0/0", "+0/0 x", "x +0/0",
	} {
		read, code := impl.ReadChanges(text)
		wantEqual(t, shown(t, code, read), "[syntax]", "read", text)
	}
}
