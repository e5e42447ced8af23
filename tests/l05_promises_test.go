package tests

import (
	"fmt"
	"math"
	"math/rand"
	"runtime"
	"slices"
	"strings"
	"sync"
	"testing"
	"time"

	"loop.example/g01311/impl"
)

// spareRepertoire returns arguments with spare capacity behind each slice, and a function that shows all of their memory.
func spareRepertoire(r repArgs) (repArgs, func() string) {
	var hammers []impl.Hammer
	var drums []impl.Drum
	var made []impl.Change
	var order []int64
	var tree [][2]int64
	r.f, hammers = spareFrame(r.f)
	r.list, drums = withSpareRoom(r.list, impl.Drum{0: 999})
	r.changes, made = withSpareRoom(r.changes, impl.Change{Step: -9, Track: -9, Put: true})
	r.order, order = withSpareRoom(r.order, -9)
	r.tree, tree = withSpareRoom(r.tree, [2]int64{-9, -9})
	return r, func() string { return fmt.Sprint(hammers, rawDrums(drums), made, order, tree) }
}

// bareRepertoire returns arguments without spare capacity, and in other memory.
func bareRepertoire(r repArgs) repArgs {
	r.f.Hammers = slices.Clip(slices.Clone(r.f.Hammers))
	r.list = slices.Clip(slices.Clone(r.list))
	r.changes = slices.Clip(slices.Clone(r.changes))
	r.order, r.tree = slices.Clip(slices.Clone(r.order)), slices.Clip(slices.Clone(r.tree))
	return r
}

// repertoiresForPurity are random arguments, and some that are not valid.
func repertoiresForPurity() []repArgs {
	var list []repArgs
	random := rand.New(rand.NewSource(91))
	for range 300 {
		list = append(list, randomRepertoire(random))
	}
	for _, f := range append(chimeFrames()[:4], invalidFrames()...) {
		list = append(list, repArgs{f: f, a: impl.Drum{0: 1}, list: exampleDrums(), changes: changes("+0/0 -0/0 +1/0"), order: []int64{2, 0, 1}, tree: [][2]int64{{0, 1}, {1, 2}}, most: 9, text: "-0/0 +2/0"})
	}
	return list
}

func TestP1RepertoirePure(t *testing.T) {
	for _, r := range repertoiresForPurity() {
		spare, shown := spareRepertoire(r)
		bare, before := bareRepertoire(r), shown()
		for _, c := range repCalls() {
			first := c.run(spare)
			wantEqual(t, c.run(spare), first, c.name, "twice", r)
			wantEqual(t, c.run(bare), first, c.name, "with no spare capacity", r)
			wantEqual(t, shown(), before, c.name, "left its arguments", r)
		}
	}
}

func TestP1RepertoireNilOrEmpty(t *testing.T) {
	for _, n := range []int64{-1, 0} {
		none := repArgs{f: mustReadFrame(t, pairFrame), n: n}
		empty := none
		empty.list, empty.changes = []impl.Drum{}, make([]impl.Change, 0, 5)
		empty.order, empty.tree = []int64{}, make([][2]int64, 0, 5)
		for _, c := range repCalls() {
			wantEqual(t, c.run(empty), c.run(none), c.name, "of nil and empty")
		}
	}
}

// repLists has each function of chapter 5 that returns a slice, and all rows of CostTable.
func repLists(r repArgs) []listOf {
	between, _ := impl.ChangesBetween(r.f, r.a, r.b)
	undone, _ := impl.UndoChanges(r.changes)
	table, _ := impl.CostTable(r.f, r.list)
	// The rows of the one table, and the other one as a list of rows.
	other, _ := impl.CostTable(r.f, r.list)
	best, _, _ := impl.BestOrder(r.f, r.list, -1)
	begun, _, _ := impl.BestOrder(r.f, r.list, 0)
	circle, _, _ := impl.BestCircle(r.f, r.list)
	nearest, _, _ := impl.NearestOrder(r.f, r.list, 0)
	tree, _, _ := impl.TreeOf(r.f, r.list)
	given, _, _ := impl.ShareGroups(r.f, r.list)
	read, _ := impl.ReadChanges(r.text)
	filler := impl.Change{Step: 77, Track: 77, Put: true}
	list := []listOf{
		listOfSlice(between, filler),
		listOfSlice(undone, filler),
		listOfSlice(best, 77),
		listOfSlice(begun, 77),
		listOfSlice(circle, 77),
		listOfSlice(nearest, 77),
		listOfSlice(tree, [2]int64{77, 77}),
		listOfSlice(given, 77),
		listOfSlice(read, filler),
	}
	for _, row := range table {
		list = append(list, listOfSlice(row, 77))
	}
	return append(list, listOfSlice(other, []int64{77}))
}

func TestP1RepertoireSharesNoMemory(t *testing.T) {
	for _, r := range repertoiresForPurity() {
		spare, shown := spareRepertoire(r)
		checkLists(t, func() []listOf { return repLists(spare) }, shown)
	}
}

func TestP1RepertoireSchedule(t *testing.T) {
	random := rand.New(rand.NewSource(92))
	var subjects []repArgs
	for len(subjects) < 12 {
		r := randomRepertoire(random)
		r.list = randomDrums(random, r.f, len(subjects)%9)
		subjects = append(subjects, r)
	}
	checkSchedule(t, func() string {
		var results []string
		for _, r := range subjects {
			for _, c := range repCalls() {
				results = append(results, c.run(r))
			}
		}
		return strings.Join(results, "\n")
	})
}

// checkSchedule asks for equal results with one processor and with several, with many calls at a time, and for no goroutine that is left behind.
func checkSchedule(t *testing.T, all func() string) {
	t.Helper()
	before, want := runtime.NumGoroutine(), all()
	defer runtime.GOMAXPROCS(runtime.GOMAXPROCS(1))
	for _, processors := range []int{1, 2, 8, 64} {
		runtime.GOMAXPROCS(processors)
		var callers sync.WaitGroup
		for range 16 {
			callers.Add(1)
			go func() {
				defer callers.Done()
				wantEqual(t, all(), want, "results with so many processors:", processors)
			}()
		}
		callers.Wait()
	}
	// What a goroutine that has ended is still doing is not the program's, and takes no time that matters.
	for range 1000 {
		if runtime.NumGoroutine() <= before {
			return
		}
		time.Sleep(5 * time.Millisecond)
	}
	t.Errorf("%d goroutines before, %d behind", before, runtime.NumGoroutine())
}

// checkRepCode asks for an error with zero values beside it.
func checkRepCode(t *testing.T, c repCall, r repArgs, want string) {
	t.Helper()
	got := c.run(r)
	if zeros := withoutZeros(got); zeros != want {
		t.Errorf("%s: got %s, want %s and zero values", c.name, got, want)
	}
}

const (
	pairCalls   = "ChangesBetween ChangeCost TurnedCost CanShare"
	changeCalls = "MakeChanges FirstBadChange"
	listCalls   = "CostTable OrderCost CheckOrder BestOrder BestCircle NearestOrder TreeOf CheckTree SharedPins UnionOf ShareGroups PinsNeeded"
)

func TestP1RepertoireInvalidFirst(t *testing.T) {
	for _, n := range []int64{-1, 0, 9, math.MinInt64, math.MaxInt64} {
		far := repArgs{changes: manyChanges(2401), order: []int64{n, n}, tree: [][2]int64{{n, n}}, n: n, most: n}
		for _, far.f = range invalidFrames() {
			for _, far.list = range [][]impl.Drum{nil, {{}}, make([]impl.Drum, 9)} {
				for _, c := range repCallsNamed(pairCalls + " " + changeCalls + " " + listCalls) {
					checkRepCode(t, c, far, "invalid")
				}
			}
		}
		for _, far.f = range chimeFrames() {
			for _, bad := range invalidDrumsFor(far.f) {
				far.a, far.b = bad, impl.Drum{}
				for _, c := range repCallsNamed(pairCalls + " " + changeCalls) {
					checkRepCode(t, c, far, "invalid")
				}
				far.a, far.b = impl.Drum{}, bad
				for _, c := range repCallsNamed(pairCalls) {
					checkRepCode(t, c, far, "invalid")
				}
				for _, place := range []int{0, 4, 8} {
					far.list = make([]impl.Drum, 9)
					far.list[place] = bad
					for _, c := range repCallsNamed(listCalls) {
						checkRepCode(t, c, far, "invalid")
					}
				}
			}
		}
	}
}

// TestP1RepertoireErrorsInOrder asks for ErrLimit and ErrRange where errors that come behind them could be told.
func TestP1RepertoireErrorsInOrder(t *testing.T) {
	f := frame(8, 24, 3)
	for _, n := range []int64{-2, -1, 0, 9, math.MinInt64, math.MaxInt64} {
		r := repArgs{f: f, list: make([]impl.Drum, 9), order: []int64{n, n}, tree: [][2]int64{{n, n}}, n: n, most: n}
		for _, c := range repCallsNamed(listCalls) {
			checkRepCode(t, c, r, "limit")
		}
		// There is no drum, and so no index, but any one is a first one.
		want := map[bool]string{true: "notfound", false: "range"}[n == -1]
		for _, c := range repCallsNamed("BestOrder NearestOrder") {
			checkRepCode(t, c, repArgs{f: f, n: n}, want)
		}
	}
	r := repArgs{f: f, changes: append(changes("+8/0 -0/0"), manyChanges(2399)...)}
	for _, c := range repCallsNamed(changeCalls + " UndoChanges") {
		checkRepCode(t, c, r, "limit")
	}
	r.changes = changes("+0/0 -1/0 +8/0")
	checkRepCode(t, repCallsNamed("MakeChanges")[0], r, "state")
	r.changes = changes("+0/0 +8/0 -1/0")
	checkRepCode(t, repCallsNamed("MakeChanges")[0], r, "range")
}

// TestP1RepertoireRowsZero asks that nothing comes with an error, slices being nil or empty.
func TestP1RepertoireRowsZero(t *testing.T) {
	f := frame(8, 24, 3)
	for _, list := range [][]impl.Drum{make([]impl.Drum, 9), {{}, {1: 2}}} {
		table, _ := impl.CostTable(f, list)
		order, _, _ := impl.BestOrder(f, list, -1)
		circle, _, _ := impl.BestCircle(f, list)
		nearest, _, _ := impl.NearestOrder(f, list, 0)
		tree, _, _ := impl.TreeOf(f, list)
		given, _, _ := impl.ShareGroups(f, list)
		wantEqual(t, len(table)+len(order)+len(circle)+len(nearest)+len(tree)+len(given), 0, "nothing with an error")
	}
}

func TestP1RepertoireGreat(t *testing.T) {
	const size = 1000000
	f := frame(8, 24, 3)
	great := repArgs{f: impl.Frame{Steps: 8, Hammers: slices.Repeat([]impl.Hammer{{Pitch: 24, Ready: 3}}, size)}}
	for _, c := range repCallsNamed(pairCalls + " " + changeCalls + " " + listCalls) {
		checkRepCode(t, c, great, "invalid")
	}
	many := repArgs{f: f, list: make([]impl.Drum, size/96)}
	for i := range many.list {
		many.list[i][i%8] = uint32(i / 8 % 2)
	}
	for _, c := range repCallsNamed(listCalls) {
		checkRepCode(t, c, many, "limit")
	}
	many.list[len(many.list)-1][8] = 1
	for _, c := range repCallsNamed(listCalls) {
		checkRepCode(t, c, many, "invalid")
	}
	for _, c := range []impl.Change{{}, {Step: 1, Put: true}, {Step: -1}, {Step: math.MaxInt16, Track: math.MaxInt8}} {
		r := repArgs{f: f, changes: slices.Repeat([]impl.Change{c}, size)}
		for _, call := range repCallsNamed(changeCalls + " UndoChanges") {
			checkRepCode(t, call, r, "limit")
		}
		wantEqual(t, impl.ChangesText(r.changes), "", "text of a great list of changes")
	}
	for _, n := range []int64{0, 1, -1, math.MaxInt64} {
		r := repArgs{f: f, list: ladder(1, 2), order: slices.Repeat([]int64{n}, size), tree: slices.Repeat([][2]int64{{0, n}}, size), most: size}
		checkRepCode(t, repCallsNamed("OrderCost")[0], r, "state")
		for _, c := range repCallsNamed("CheckOrder CheckTree") {
			checkRepCode(t, c, r, "ok")
		}
	}
	for _, part := range []string{" ", "+", "-", "/", "0", "+0/0", "+0/0 ", " +0/0", "+0", "/0", "\n", "\xff", "9", "0/0 "} {
		for _, first := range []string{"", "+0/0", "+0/0 ", "-"} {
			read, code := impl.ReadChanges(first + strings.Repeat(part, size/len(part)))
			wantEqual(t, shown(t, code, read), "[syntax]", "read", first, "and", part, "again and again")
		}
	}
}

// TestP1RepertoireMost asks for what takes the longest time.
func TestP1RepertoireMost(t *testing.T) {
	f := likeHammers(96, 24, 0, 2, 20)
	random := rand.New(rand.NewSource(93))
	for one := 2; one < 20; one += 6 {
		r := repArgs{f: f, n: -1}
		for range 8 {
			r.list = append(r.list, randomDrum(random, f, one))
		}
		r.a, r.b = r.list[0], r.list[1]
		order, cost, code := impl.BestOrder(f, r.list, -1)
		wantEqual(t, code, impl.OK, "best order")
		circle, around, code := impl.BestCircle(f, r.list)
		wantEqual(t, code, impl.OK, "best circle")
		// All costs are far greater than their differences, so that no order can be given up early.
		table := modelTable(r.list)
		wantOrder, wantCost := modelBest(table, -1, false)
		wantCircle, wantAround := modelBest(table, 0, true)
		wantEqual(t, fmt.Sprint(order, cost, circle, around), fmt.Sprint(wantOrder, wantCost, wantCircle, wantAround), "best ones of great drums")
	}
}

// checkThereAndBack asks that changes make b of a, and a of b again if they are undone.
func checkThereAndBack(t *testing.T, f impl.Frame, a, b impl.Drum) {
	t.Helper()
	list, code := impl.ChangesBetween(f, a, b)
	// It is shown only where it is needed, for there are many pairs of drums.
	r := repArgs{f: f, a: a, b: b, changes: list}
	wantEqual(t, code, impl.OK, "changes", r)
	made, code := impl.MakeChanges(f, a, list)
	wantEqual(t, code == impl.OK && made == b, true, "made", r)
	undone, code := impl.UndoChanges(list)
	wantEqual(t, code, impl.OK, "undo", r)
	home, code := impl.MakeChanges(f, b, undone)
	wantEqual(t, code == impl.OK && home == a, true, "made again", r)
	again, code := impl.UndoChanges(undone)
	wantEqual(t, code == impl.OK && slices.Equal(again, list), true, "undone twice", r)
	_, one := impl.FirstBadChange(f, a, list)
	_, two := impl.FirstBadChange(f, b, undone)
	wantEqual(t, [2]int64{one, two}, [2]int64{impl.ErrNotFound, impl.ErrNotFound}, "no bad change", r)
	cost, code := impl.ChangeCost(f, a, b)
	wantEqual(t, [2]int64{cost, code}, [2]int64{int64(len(list)), impl.OK}, "as many changes as the cost", r)
	for i := 1; i < len(list); i++ {
		x, y := list[i-1], list[i]
		wantEqual(t, !x.Put && y.Put || x.Put == y.Put && (place{int64(y.Step), int64(y.Track)}).behind(place{int64(x.Step), int64(x.Track)}), true, "in order", i, r)
	}
}

// TestP11ThereAndBack goes through all pairs of drums of small frames, and through drums of all others.
func TestP11ThereAndBack(t *testing.T) {
	for _, f := range []impl.Frame{frame(2, 24, 1), frame(2, 24, 2, 25, 1), frame(3, 24, 2), frame(2, 24, 2, 25, 1, 24, 1), frame(5, 24, 3)} {
		for _, a := range allDrums(f) {
			for _, b := range allDrums(f) {
				checkThereAndBack(t, f, a, b)
			}
		}
	}
	for _, f := range validFrames() {
		drums := drumsFor(f)
		for i, a := range drums {
			checkThereAndBack(t, f, a, a)
			checkThereAndBack(t, f, a, drums[(i*7+3)%len(drums)])
			checkThereAndBack(t, f, a, drums[(i*5+1)%len(drums)])
		}
	}
}

// TestP11AnyChanges makes any changes that can be made, the same place being changed again and again, and undoes them.
func TestP11AnyChanges(t *testing.T) {
	random := rand.New(rand.NewSource(94))
	for i := range 600 {
		f := randomFrame(random)
		d := randomDrum(random, f, 2+random.Intn(6))
		list, now := []impl.Change{}, d
		count := random.Intn(40)
		if i%100 == 0 {
			count = 2400
		}
		for range count {
			step, track := random.Intn(int(f.Steps)), random.Intn(len(f.Hammers))
			list = append(list, impl.Change{Step: int16(step), Track: int8(track), Put: now[step]>>track&1 == 0})
			now[step] ^= 1 << track
		}
		made, code := impl.MakeChanges(f, d, list)
		wantEqual(t, answers(code, made), answers(impl.OK, now), "made", rawChanges(list))
		undone, _ := impl.UndoChanges(list)
		home, code := impl.MakeChanges(f, made, undone)
		wantEqual(t, answers(code, home), answers(impl.OK, d), "undone", rawChanges(list))
		checkFirstBad(t, f, d, list)
	}
}

// checkFirstBad makes one change of a list, each of which can be made, a bad one.
func checkFirstBad(t *testing.T, f impl.Frame, d impl.Drum, list []impl.Change) {
	t.Helper()
	for index := 0; index < len(list); index += 1 + index/3 {
		for want, change := range map[int64]func(c *impl.Change){
			impl.ErrState: func(c *impl.Change) { c.Put = !c.Put },
			impl.ErrRange: func(c *impl.Change) { c.Step = f.Steps },
		} {
			bad := slices.Clone(list)
			change(&bad[index])
			made, code := impl.MakeChanges(f, d, bad)
			wantEqual(t, answers(code, made), answers(want, impl.Drum{}), "a bad change at", index)
			first, code := impl.FirstBadChange(f, d, bad)
			wantEqual(t, answers(code, first), answers(impl.OK, index), "a bad change at", index)
			_, code = impl.MakeChanges(f, d, bad[:index])
			wantEqual(t, code, impl.OK, "changes before the bad one", index)
		}
	}
}

// TestChangesFromTexts asks that changes are read from their texts.
func TestChangesFromTexts(t *testing.T) {
	for _, f := range validFrames() {
		drums := drumsFor(f)
		for i, a := range drums {
			list, _ := impl.ChangesBetween(f, a, drums[(i+1)%len(drums)])
			text := impl.ChangesText(list)
			wantEqual(t, text, rawChanges(list), "text")
			read, code := impl.ReadChanges(text)
			wantEqual(t, answers(code, read), answers(impl.OK, list), "read", text)
		}
	}
}

// TestTurnedCostIsLeast turns drums there, and asks that no turn costs less, and no lesser one as much.
func TestTurnedCostIsLeast(t *testing.T) {
	for _, f := range validFrames() {
		drums := drumsFor(f)
		for i, a := range drums {
			b := drums[(i*3+2)%len(drums)]
			cost, by, code := impl.TurnedCost(f, a, b)
			wantEqual(t, code, impl.OK, "turned", rawFrame(f))
			for other := range int64(f.Steps) {
				turned, _ := impl.TurnDrum(f, b, other)
				more, _ := impl.ChangeCost(f, a, turned)
				wantEqual(t, more > cost || more == cost && other >= by, true, "no turn costs less:", other, rawFrame(f), rawDrum(a), rawDrum(b))
				wantEqual(t, other != by || more == cost, true, "the cost of the turn", rawFrame(f), rawDrum(a), rawDrum(b))
			}
		}
	}
}

// orderSubjects are lists of drums: edges, and random ones, with up to 6 drums.
func orderSubjects() []repArgs {
	var subjects []repArgs
	for _, f := range chimeFrames() {
		for _, list := range listsFor(f) {
			if len(list) > 0 {
				subjects = append(subjects, repArgs{f: f, list: list})
			}
		}
	}
	random := rand.New(rand.NewSource(95))
	for i := range 240 {
		r := repArgs{f: randomFrame(random)}
		r.list = randomDrums(random, r.f, 1+i%6)
		subjects = append(subjects, r)
	}
	great := frame(96, 24, 1)
	return append(subjects, repArgs{f: great, list: ladder(5, 4, 7, 0)}, repArgs{f: great, list: apartBy(6, 4)}, repArgs{f: great, list: ladder(3, 3, 3, 3, 3, 3)})
}

// costOf asks OrderCost for the cost of an order.
func costOf(t *testing.T, r repArgs, order []int64) int64 {
	t.Helper()
	cost, code := impl.OrderCost(r.f, r.list, order)
	wantEqual(t, code, impl.OK, "cost of an order", order, r)
	return cost
}

// checkBest asks that a told order has its cost, and comes, of all orders, ahead of those that cost as much.
func checkBest(t *testing.T, r repArgs, told []int64, cost, first int64, price func(order []int64) int64) {
	t.Helper()
	found := false
	for _, order := range ordersOf(len(r.list)) {
		if first != -1 && order[0] != first {
			continue
		}
		found = found || slices.Equal(order, told)
		other := price(order)
		wantEqual(t, cost < other || cost == other && slices.Compare(told, order) <= 0, true, "no order costs less:", order, other, told, cost, r)
	}
	wantEqual(t, found, true, "an order of the drums", told, first, r)
	wantEqual(t, price(told), cost, "the cost of the order", told, r)
}

// TestP12NoOrderCostsLess goes through all orders of lists.
func TestP12NoOrderCostsLess(t *testing.T) {
	for _, r := range orderSubjects() {
		prices := map[string]int64{}
		line := func(order []int64) int64 {
			key := fmt.Sprint(order)
			if _, known := prices[key]; !known {
				prices[key] = costOf(t, r, order)
			}
			return prices[key]
		}
		best, cost, code := impl.BestOrder(r.f, r.list, -1)
		wantEqual(t, code, impl.OK, "best order", r)
		checkBest(t, r, best, cost, -1, line)
		tree, least, code := impl.TreeOf(r.f, r.list)
		wantEqual(t, fmt.Sprint(code, least <= cost), "0 true", "no order costs less than the tree", tree, best, r)
		circle, around, code := impl.BestCircle(r.f, r.list)
		wantEqual(t, fmt.Sprint(code, around >= cost), "0 true", "a circle costs no less than an order", circle, best, r)
		checkBest(t, r, circle, around, 0, func(order []int64) int64 {
			back, _ := impl.ChangeCost(r.f, r.list[order[len(order)-1]], r.list[order[0]])
			return line(order) + back
		})
		checkNearest(t, r)
		for first := range int64(len(r.list)) {
			begun, more, code := impl.BestOrder(r.f, r.list, first)
			wantEqual(t, fmt.Sprint(code, more >= cost), "0 true", "begins with", first, r)
			checkBest(t, r, begun, more, first, line)
			near, far, code := impl.NearestOrder(r.f, r.list, first)
			wantEqual(t, fmt.Sprint(code, far >= more, far == line(near), near[0] == first), "0 true true true", "nearest", first, r)
		}
		for most, want := range map[int64]bool{cost - 1: false, cost: true} {
			is, code := impl.CheckOrder(r.f, r.list, best, most)
			wantEqual(t, answers(code, is), answers(impl.OK, want), "check the best order", most, r)
		}
	}
}

// checkNearest asks that no drum that is left costs less than the next one, and none with a lesser index as much.
func checkNearest(t *testing.T, r repArgs) {
	t.Helper()
	table, _ := impl.CostTable(r.f, r.list)
	for first := range int64(len(r.list)) {
		order, _, _ := impl.NearestOrder(r.f, r.list, first)
		for i := 1; i < len(order); i++ {
			row := table[order[i-1]]
			for _, left := range order[i:] {
				wantEqual(t, row[left] > row[order[i]] || row[left] == row[order[i]] && left >= order[i], true, "the nearest one", order, i, r)
			}
		}
	}
}

// TestP12TreesCostLeast goes through all trees of lists: none costs less, and CheckTree tells which ones cost as much.
func TestP12TreesCostLeast(t *testing.T) {
	for _, r := range orderSubjects() {
		if len(r.list) > 5 {
			continue
		}
		tree, least, code := impl.TreeOf(r.f, r.list)
		wantEqual(t, code, impl.OK, "tree", r)
		table, _ := impl.CostTable(r.f, r.list)
		wantEqual(t, pairsCost(table, tree), least, "the cost of the tree", tree, r)
		found := len(r.list) == 1
		for _, other := range treesOf(len(r.list)) {
			cost := pairsCost(table, other)
			wantEqual(t, cost >= least, true, "no tree costs less", other, tree, r)
			is, code := impl.CheckTree(r.f, r.list, other)
			wantEqual(t, answers(code, is), answers(impl.OK, cost == least), "check", other, r)
			sorted := slices.SortedFunc(slices.Values(tree), func(a, b [2]int64) int { return slices.Compare(a[:], b[:]) })
			found = found || slices.Equal(sorted, other)
		}
		wantEqual(t, found, true, "one of the trees", tree, r)
		is, code := impl.CheckTree(r.f, r.list, tree)
		wantEqual(t, answers(code, is), "ok; true", "check the tree itself", r)
	}
}

// TestCostTableRows asks for the costs of all pairs, which are the same both ways, and for no way that is shorter over another drum.
func TestCostTableRows(t *testing.T) {
	for _, r := range orderSubjects() {
		table, code := impl.CostTable(r.f, r.list)
		wantEqual(t, fmt.Sprint(code, len(table)), fmt.Sprint(0, len(r.list)), "rows", r)
		for i, row := range table {
			wantEqual(t, len(row), len(r.list), "columns", r)
			for j, cost := range row {
				want, _ := impl.ChangeCost(r.f, r.list[i], r.list[j])
				wantEqual(t, cost, want, "cost", i, j, r)
				wantEqual(t, cost, table[j][i], "the same both ways", i, j, r)
				for k := range row {
					wantEqual(t, cost <= table[i][k]+table[k][j], true, "no shorter way", i, k, j, r)
				}
			}
		}
	}
}

// groupSubjects are lists of drums, with few pins mostly, so that many of them can share a drum.
func groupSubjects() []repArgs {
	subjects := orderSubjects()
	random := rand.New(rand.NewSource(96))
	for range 600 {
		r := repArgs{f: randomFrame(random)}
		for range random.Intn(9) {
			r.list = append(r.list, randomDrum(random, r.f, 6+random.Intn(40)))
		}
		subjects = append(subjects, r)
	}
	return subjects
}

func canPlay(t *testing.T, f impl.Frame, list []impl.Drum) bool {
	t.Helper()
	union, one := impl.UnionOf(f, list)
	can, two := impl.IsPlayable(f, union)
	wantEqual(t, fmt.Sprint(one, two), "0 0", "union")
	return can
}

// TestP13GroupsShare asks that drums of a group can share a drum, and that no drum could have been given to an earlier group.
func TestP13GroupsShare(t *testing.T) {
	found := map[string]int{}
	for _, r := range groupSubjects() {
		given, count, code := impl.ShareGroups(r.f, r.list)
		wantEqual(t, fmt.Sprint(code, len(given)), fmt.Sprint(0, len(r.list)), "a group for each drum", r)
		groups := [][]impl.Drum{}
		for i, d := range r.list {
			alone := !canPlay(t, r.f, []impl.Drum{d})
			for group, members := range groups {
				can := canPlay(t, r.f, append(slices.Clone(members), d))
				switch {
				case int64(group) == given[i]:
					wantEqual(t, can, true, "drums of a group share", i, given, r)
					found["together"]++
				case int64(group) < given[i]:
					wantEqual(t, can, false, "the first group that can be", i, given, r)
					found["behind"]++
				}
			}
			if given[i] == int64(len(groups)) {
				groups = append(groups, nil)
			}
			wantEqual(t, given[i] < int64(len(groups)), true, "groups have no gaps", given, r)
			groups[given[i]] = append(groups[given[i]], d)
			if alone {
				found["alone"]++
				wantEqual(t, len(groups[given[i]]), 1, "a drum with a clash begins a group", i, given, r)
			}
		}
		wantEqual(t, count, int64(len(groups)), "so many groups", given, r)
		checkGroups(t, r, groups)
	}
	for _, what := range []string{"together", "behind", "alone"} {
		if found[what] < 300 {
			t.Errorf("the tests look at too few drums %s: %d", what, found[what])
		}
	}
}

// checkGroups asks that any two drums of a group can share a drum, on which each of them has all its pins, and that none is beside a drum with a clash.
func checkGroups(t *testing.T, r repArgs, groups [][]impl.Drum) {
	t.Helper()
	for _, members := range groups {
		union, code := impl.UnionOf(r.f, members)
		wantEqual(t, code, impl.OK, "union", r)
		for i, a := range members {
			common, code := impl.SharedPins(r.f, []impl.Drum{a, union})
			wantEqual(t, answers(code, common), answers(impl.OK, a), "all pins are in the union", r)
			for _, b := range members[:i] {
				can, code := impl.CanShare(r.f, a, b)
				wantEqual(t, answers(code, can), "ok; true", "two drums of a group", rawDrum(a), rawDrum(b), r)
			}
		}
	}
}

// TestP13CanShare asks that two drums can share just if their union has no clash.
func TestP13CanShare(t *testing.T) {
	found := map[bool]int{}
	for _, f := range append(smallFrames()[:5], frame(6, 24, 3), frame(7, 24, 3)) {
		for _, a := range allDrums(f) {
			for _, b := range allDrums(f) {
				can, code := impl.CanShare(f, a, b)
				want := canPlay(t, f, []impl.Drum{a, b})
				wantEqual(t, code == impl.OK && can == want, true, "share", want, repArgs{f: f, a: a, b: b})
				found[can]++
			}
		}
	}
	if found[true] < 500 || found[false] < 500 {
		t.Errorf("the tests look at too few pairs: %v", found)
	}
}

// TestSharedAndUnion asks that shared pins are those of each drum, and no others, and that a union has the pins of each drum, and no others.
func TestSharedAndUnion(t *testing.T) {
	for _, r := range orderSubjects() {
		shared, one := impl.SharedPins(r.f, r.list)
		union, two := impl.UnionOf(r.f, r.list)
		most, three := impl.PinsNeeded(r.f, r.list)
		wantEqual(t, fmt.Sprint(one, two, three), "0 0 0", "shared, and union", r)
		reached := false
		for step := range int64(r.f.Steps) {
			for track := range int64(len(r.f.Hammers)) {
				all, some := true, false
				for _, d := range r.list {
					has, _ := impl.HasPin(r.f, d, step, track)
					all, some = all && has, some || has
				}
				inAll, _ := impl.HasPin(r.f, shared, step, track)
				inSome, _ := impl.HasPin(r.f, union, step, track)
				wantEqual(t, fmt.Sprint(inAll, inSome), fmt.Sprint(all, some), "pin", step, track, r)
			}
		}
		for _, d := range r.list {
			count, _ := impl.CountPins(r.f, d)
			reached = reached || count == most
			wantEqual(t, count <= most, true, "no drum needs more", r)
		}
		wantEqual(t, reached, true, "a drum needs so many", r)
	}
}
