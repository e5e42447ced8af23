package tests

import (
	"cmp"
	"fmt"
	"math/rand"
	"slices"
	"strings"
	"testing"

	"loop.example/g01311/impl"
)

// This file tells chapter 5 once more, by sets of places, all orders and all trees, and holds the program against it.

// code tells ErrInvalid where a frame or a drum for it is none.
func (r repArgs) code(drums ...impl.Drum) int64 {
	if !modelFrame(r.f) || slices.ContainsFunc(drums, func(d impl.Drum) bool { return !modelDrum(r.f, d) }) {
		return impl.ErrInvalid
	}
	return impl.OK
}

// listCode is code for the list of drums, or ErrLimit, behind it, or ErrNotFound, behind both, if there have to be drums, and are none.
func (r repArgs) listCode(needed bool) int64 {
	code := r.code(r.list...)
	if code == impl.OK && len(r.list) >= 9 {
		return impl.ErrLimit
	}
	if code == impl.OK && needed && len(r.list) == 0 {
		return impl.ErrNotFound
	}
	return code
}

// firstCode is listCode for functions that begin with a drum, or with any one.
func (r repArgs) firstCode(any bool) int64 {
	code := r.listCode(false)
	if code != impl.OK {
		return code
	}
	if r.n == -1 && len(r.list) == 0 {
		return impl.ErrNotFound
	}
	if r.n >= 0 && r.n < int64(len(r.list)) || r.n == -1 && any {
		return impl.OK
	}
	return impl.ErrRange
}

// modelCost counts the places at which one of two drums alone has a pin.
func modelCost(a, b impl.Drum) int64 {
	one, two := placesOf(a), placesOf(b)
	return int64(len(onlyIn(one, two)) + len(onlyIn(two, one)))
}

func modelTable(list []impl.Drum) [][]int64 {
	table := [][]int64{}
	for _, a := range list {
		row := []int64{}
		for _, b := range list {
			row = append(row, modelCost(a, b))
		}
		table = append(table, row)
	}
	return table
}

// modelMade makes changes of a set of places, and returns the index and the error of the first one that has one.
func (r repArgs) modelMade() (map[place]bool, int, int64) {
	pins := placesOf(r.a)
	for i, c := range r.changes {
		p := place{int64(c.Step), int64(c.Track)}
		if p.step < 0 || p.step >= int64(r.f.Steps) || p.track < 0 || p.track >= int64(len(r.f.Hammers)) {
			return nil, i, impl.ErrRange
		}
		if pins[p] == c.Put {
			return nil, i, impl.ErrState
		}
		if c.Put {
			pins[p] = true
		} else {
			delete(pins, p)
		}
	}
	return pins, -1, impl.OK
}

func drumOf(pins map[place]bool) impl.Drum {
	var d impl.Drum
	for p := range pins {
		d[p.step] += 1 << p.track
	}
	return d
}

// knownOrders are the lists of allOrders.
var knownOrders = map[int][][]int64{}

func ordersOf(count int) [][]int64 {
	if knownOrders[count] == nil {
		knownOrders[count] = allOrders(int64(count))
	}
	return knownOrders[count]
}

// modelAlong goes from drum to drum, and back to the first one at last, if it is a circle.
func modelAlong(table [][]int64, order []int64, circle bool) int64 {
	var cost int64
	for i := range order {
		if i > 0 {
			cost += table[order[i-1]][order[i]]
		}
	}
	if circle {
		cost += table[order[len(order)-1]][order[0]]
	}
	return cost
}

// modelBest goes through all orders that begin with a drum, or with any one.
func modelBest(table [][]int64, first int64, circle bool) ([]int64, int64) {
	var best []int64
	var least int64
	for _, order := range ordersOf(len(table)) {
		if first != -1 && order[0] != first {
			continue
		}
		cost := modelAlong(table, order, circle)
		if best == nil || cost < least || cost == least && slices.Compare(order, best) < 0 {
			best, least = order, cost
		}
	}
	return best, least
}

// modelNearest sorts the drums that are left again and again.
func modelNearest(table [][]int64, first int64) []int64 {
	order, left := []int64{first}, []int64{}
	for index := range int64(len(table)) {
		if index != first {
			left = append(left, index)
		}
	}
	for len(left) > 0 {
		row := table[order[len(order)-1]]
		slices.SortFunc(left, func(a, b int64) int { return cmp.Or(cmp.Compare(row[a], row[b]), cmp.Compare(a, b)) })
		order, left = append(order, left[0]), left[1:]
	}
	return order
}

// wayIn returns the pairs by which two drums are connected, going on from drum to drum, and whether they are connected at all.
func wayIn(tree [][2]int64, from, to, before int64) ([][2]int64, bool) {
	if from == to {
		return nil, true
	}
	for _, pair := range tree {
		for _, ends := range [][2]int64{pair, {pair[1], pair[0]}} {
			if ends[0] != from || ends[1] == before {
				continue
			}
			if way, ok := wayIn(tree, ends[1], to, from); ok {
				return append(way, pair), true
			}
		}
	}
	return nil, false
}

// connects reports whether pairs of so many drums, which are as many as a tree has, connect all of them.
func connects(pairs [][2]int64, count int) bool {
	reached := map[int64]bool{0: true}
	for range pairs {
		for _, pair := range pairs {
			if reached[pair[0]] || reached[pair[1]] {
				reached[pair[0]], reached[pair[1]] = true, true
			}
		}
	}
	return len(reached) == count
}

// knownTrees are the lists of treesOf.
var knownTrees = map[int][][][2]int64{}

// treesOf returns all trees of so many drums, by trying each choice of pairs.
func treesOf(count int) [][][2]int64 {
	if list, known := knownTrees[count]; known {
		return list
	}
	pairs := [][2]int64{}
	for a := range int64(count) {
		for b := a + 1; b < int64(count); b++ {
			pairs = append(pairs, [2]int64{a, b})
		}
	}
	var trees [][][2]int64
	var choose func(chosen, left [][2]int64)
	choose = func(chosen, left [][2]int64) {
		if len(chosen) == count-1 {
			if connects(chosen, count) {
				trees = append(trees, slices.Clone(chosen))
			}
			return
		}
		for i, pair := range left {
			choose(append(chosen, pair), left[i+1:])
		}
	}
	choose(nil, pairs)
	knownTrees[count] = trees
	return trees
}

func pairsCost(table [][]int64, pairs [][2]int64) int64 {
	var cost int64
	for _, pair := range pairs {
		cost += table[pair[0]][pair[1]]
	}
	return cost
}

// modelTree goes through all trees: of those with the least cost it returns the one whose pairs, ordered by their costs, are the first ones.
func modelTree(table [][]int64) ([][2]int64, int64) {
	least, best := int64(-1), [][2]int64{}
	trees := treesOf(len(table))
	for _, tree := range trees {
		if cost := pairsCost(table, tree); least == -1 || cost < least {
			least = cost
		}
	}
	compare := func(a, b [2]int64) int {
		return cmp.Or(cmp.Compare(table[a[0]][a[1]], table[b[0]][b[1]]), cmp.Compare(a[0], b[0]), cmp.Compare(a[1], b[1]))
	}
	for _, tree := range trees {
		if pairsCost(table, tree) != least {
			continue
		}
		sorted := slices.SortedFunc(slices.Values(tree), compare)
		if len(best) == 0 || slices.CompareFunc(sorted, best, compare) < 0 {
			best = sorted
		}
	}
	return best, least
}

// modelIsTree asks for each pair of drums for the way between them, as the document does.
func modelIsTree(table [][]int64, tree [][2]int64) bool {
	count := int64(len(table))
	if int64(len(tree)) != count-1 {
		return false
	}
	for _, pair := range tree {
		if pair[0] < 0 || pair[0] >= pair[1] || pair[1] >= count {
			return false
		}
	}
	if !connects(tree, int(count)) {
		return false
	}
	for a := range count {
		for b := range count {
			way, _ := wayIn(tree, a, b, -1)
			for _, pair := range way {
				if table[a][b] < table[pair[0]][pair[1]] {
					return false
				}
			}
		}
	}
	return true
}

// together is the set of the places of some drums.
func together(drums ...impl.Drum) map[place]bool {
	set := map[place]bool{}
	for _, d := range drums {
		for p := range placesOf(d) {
			set[p] = true
		}
	}
	return set
}

func (r repArgs) modelClash(drums ...impl.Drum) bool {
	m := modelOf(r.f, impl.Drum{})
	m.pins = together(drums...)
	return len(m.clashes()) > 0
}

// modelGroups keeps the drums of each group, none of those that are alone.
func (r repArgs) modelGroups() ([]int, int) {
	given, members := []int{}, [][]impl.Drum{}
	for _, d := range r.list {
		group := slices.IndexFunc(members, func(list []impl.Drum) bool {
			return len(list) > 0 && !r.modelClash(append(list, d)...)
		})
		switch {
		case r.modelClash(d):
			group = len(members)
			members = append(members, nil)
		case group == -1:
			group = len(members)
			members = append(members, []impl.Drum{d})
		default:
			members[group] = append(members[group], d)
		}
		given = append(given, group)
	}
	return given, len(members)
}

// knownChanges has the texts of all changes that there can be a text of.
var knownChanges = map[string]impl.Change{}

func changeTexts() map[string]impl.Change {
	for step := range int16(96) {
		for track := range int8(24) {
			knownChanges[fmt.Sprintf("+%d/%d", step, track)] = impl.Change{Step: step, Track: track, Put: true}
			knownChanges[fmt.Sprintf("-%d/%d", step, track)] = impl.Change{Step: step, Track: track}
		}
	}
	return knownChanges
}

func modelReadChanges(text string) ([]impl.Change, int64) {
	if len(knownChanges) == 0 {
		changeTexts()
	}
	list := []impl.Change{}
	if text == "" {
		return list, impl.OK
	}
	parts := strings.Split(text, " ")
	for _, part := range parts {
		c, known := knownChanges[part]
		if !known || len(parts) > 2400 {
			return nil, impl.ErrSyntax
		}
		list = append(list, c)
	}
	return list, impl.OK
}

// repCall is a function of chapter 5: what the program returns, and what the model does.
type repCall struct {
	name string
	run  func(r repArgs) string
	want func(r repArgs) string
}

func repCalls() []repCall {
	return slices.Concat(callsOfChanges(), callsOfCosts(), callsOfOrders(), callsOfTrees(), callsOfSharing(), callsOfChangeTexts())
}

func repCallsNamed(names string) []repCall {
	return slices.DeleteFunc(repCalls(), func(c repCall) bool {
		return !slices.Contains(strings.Fields(names), c.name)
	})
}

func callsOfChanges() []repCall {
	return []repCall{
		{"ChangesBetween", func(r repArgs) string {
			list, c := impl.ChangesBetween(r.f, r.a, r.b)
			return answers(c, list)
		}, func(r repArgs) string {
			list, code := []impl.Change{}, r.code(r.a, r.b)
			if code != impl.OK {
				return answers(code, list)
			}
			a, b := placesOf(r.a), placesOf(r.b)
			for _, p := range ordered(onlyIn(a, b)) {
				list = append(list, impl.Change{Step: int16(p.step), Track: int8(p.track), Put: false})
			}
			for _, p := range ordered(onlyIn(b, a)) {
				list = append(list, impl.Change{Step: int16(p.step), Track: int8(p.track), Put: true})
			}
			return answers(code, list)
		}},
		{"MakeChanges", func(r repArgs) string {
			d, c := impl.MakeChanges(r.f, r.a, r.changes)
			return answers(c, d)
		}, func(r repArgs) string {
			code := r.changesCode(r.a)
			if code != impl.OK {
				return answers(code, impl.Drum{})
			}
			pins, _, code := r.modelMade()
			return answers(code, drumOf(pins))
		}},
		{"FirstBadChange", func(r repArgs) string {
			index, c := impl.FirstBadChange(r.f, r.a, r.changes)
			return answers(c, index)
		}, func(r repArgs) string {
			code := r.changesCode(r.a)
			if code != impl.OK {
				return answers(code, 0)
			}
			if _, index, _ := r.modelMade(); index >= 0 {
				return answers(impl.OK, index)
			}
			return answers(impl.ErrNotFound, 0)
		}},
		{"UndoChanges", func(r repArgs) string {
			list, c := impl.UndoChanges(r.changes)
			return answers(c, list)
		}, func(r repArgs) string {
			list := []impl.Change{}
			if len(r.changes) > 2400 {
				return answers(impl.ErrLimit, list)
			}
			for _, c := range r.changes {
				list = append([]impl.Change{{Step: c.Step, Track: c.Track, Put: !c.Put}}, list...)
			}
			return answers(impl.OK, list)
		}},
	}
}

// changesCode is code, or ErrLimit, behind it, if there are too many changes.
func (r repArgs) changesCode(drums ...impl.Drum) int64 {
	code := r.code(drums...)
	if code == impl.OK && len(r.changes) > 2400 {
		return impl.ErrLimit
	}
	return code
}

func callsOfCosts() []repCall {
	return []repCall{
		{"ChangeCost", func(r repArgs) string {
			cost, c := impl.ChangeCost(r.f, r.a, r.b)
			return answers(c, cost)
		}, func(r repArgs) string {
			if code := r.code(r.a, r.b); code != impl.OK {
				return answers(code, 0)
			}
			return answers(impl.OK, modelCost(r.a, r.b))
		}},
		{"TurnedCost", func(r repArgs) string {
			cost, by, c := impl.TurnedCost(r.f, r.a, r.b)
			return answers(c, cost, by)
		}, func(r repArgs) string {
			if code := r.code(r.a, r.b); code != impl.OK {
				return answers(code, 0, 0)
			}
			m, least, best := modelOf(r.f, r.b), int64(96*24+1), int64(0)
			for by := range m.steps {
				turned := m.moved(func(p place) place { return place{(p.step + by) % m.steps, p.track} })
				if cost := modelCost(r.a, turned); cost < least {
					least, best = cost, by
				}
			}
			return answers(impl.OK, least, best)
		}},
		{"CostTable", func(r repArgs) string {
			table, c := impl.CostTable(r.f, r.list)
			return answers(c, table)
		}, func(r repArgs) string {
			if code := r.listCode(false); code != impl.OK {
				return answers(code, [][]int64{})
			}
			return answers(impl.OK, modelTable(r.list))
		}},
	}
}

// modelIsOrder looks the order up among all orders.
func (r repArgs) modelIsOrder() bool {
	return slices.ContainsFunc(ordersOf(len(r.list)), func(order []int64) bool { return slices.Equal(order, r.order) })
}

func callsOfOrders() []repCall {
	return []repCall{
		{"OrderCost", func(r repArgs) string {
			cost, c := impl.OrderCost(r.f, r.list, r.order)
			return answers(c, cost)
		}, func(r repArgs) string {
			code := r.listCode(false)
			if code == impl.OK && !r.modelIsOrder() {
				code = impl.ErrState
			}
			if code != impl.OK {
				return answers(code, 0)
			}
			return answers(impl.OK, modelAlong(modelTable(r.list), r.order, false))
		}},
		{"CheckOrder", func(r repArgs) string {
			is, c := impl.CheckOrder(r.f, r.list, r.order, r.most)
			return answers(c, is)
		}, func(r repArgs) string {
			if code := r.listCode(false); code != impl.OK {
				return answers(code, false)
			}
			is := r.modelIsOrder()
			return answers(impl.OK, is && modelAlong(modelTable(r.list), r.order, false) <= r.most)
		}},
		{"BestOrder", func(r repArgs) string {
			order, cost, c := impl.BestOrder(r.f, r.list, r.n)
			return answers(c, order, cost)
		}, func(r repArgs) string {
			if code := r.firstCode(true); code != impl.OK {
				return answers(code, []int64{}, 0)
			}
			order, cost := modelBest(modelTable(r.list), r.n, false)
			return answers(impl.OK, order, cost)
		}},
		{"BestCircle", func(r repArgs) string {
			order, cost, c := impl.BestCircle(r.f, r.list)
			return answers(c, order, cost)
		}, func(r repArgs) string {
			if code := r.listCode(true); code != impl.OK {
				return answers(code, []int64{}, 0)
			}
			order, cost := modelBest(modelTable(r.list), 0, true)
			return answers(impl.OK, order, cost)
		}},
		{"NearestOrder", func(r repArgs) string {
			order, cost, c := impl.NearestOrder(r.f, r.list, r.n)
			return answers(c, order, cost)
		}, func(r repArgs) string {
			if code := r.firstCode(false); code != impl.OK {
				return answers(code, []int64{}, 0)
			}
			table := modelTable(r.list)
			order := modelNearest(table, r.n)
			return answers(impl.OK, order, modelAlong(table, order, false))
		}},
	}
}

func callsOfTrees() []repCall {
	return []repCall{
		{"TreeOf", func(r repArgs) string {
			tree, cost, c := impl.TreeOf(r.f, r.list)
			return answers(c, tree, cost)
		}, func(r repArgs) string {
			if code := r.listCode(true); code != impl.OK {
				return answers(code, [][2]int64{}, 0)
			}
			tree, cost := modelTree(modelTable(r.list))
			return answers(impl.OK, tree, cost)
		}},
		{"CheckTree", func(r repArgs) string {
			is, c := impl.CheckTree(r.f, r.list, r.tree)
			return answers(c, is)
		}, func(r repArgs) string {
			if code := r.listCode(false); code != impl.OK {
				return answers(code, false)
			}
			return answers(impl.OK, modelIsTree(modelTable(r.list), r.tree))
		}},
	}
}

func callsOfSharing() []repCall {
	return []repCall{
		{"SharedPins", func(r repArgs) string {
			d, c := impl.SharedPins(r.f, r.list)
			return answers(c, d)
		}, func(r repArgs) string {
			code, pins := r.listCode(true), map[place]bool{}
			if code != impl.OK {
				return answers(code, impl.Drum{})
			}
			for p := range together(r.list...) {
				lacks := func(d impl.Drum) bool { return !placesOf(d)[p] }
				if !slices.ContainsFunc(r.list, lacks) {
					pins[p] = true
				}
			}
			return answers(code, drumOf(pins))
		}},
		{"UnionOf", func(r repArgs) string {
			d, c := impl.UnionOf(r.f, r.list)
			return answers(c, d)
		}, func(r repArgs) string {
			if code := r.listCode(false); code != impl.OK {
				return answers(code, impl.Drum{})
			}
			return answers(impl.OK, drumOf(together(r.list...)))
		}},
		{"CanShare", func(r repArgs) string {
			can, c := impl.CanShare(r.f, r.a, r.b)
			return answers(c, can)
		}, func(r repArgs) string {
			code := r.code(r.a, r.b)
			return answers(code, code == impl.OK && !r.modelClash(r.a, r.b))
		}},
		{"ShareGroups", func(r repArgs) string {
			given, count, c := impl.ShareGroups(r.f, r.list)
			return answers(c, given, count)
		}, func(r repArgs) string {
			if code := r.listCode(false); code != impl.OK {
				return answers(code, []int{}, 0)
			}
			given, count := r.modelGroups()
			return answers(impl.OK, given, count)
		}},
		{"PinsNeeded", func(r repArgs) string {
			most, c := impl.PinsNeeded(r.f, r.list)
			return answers(c, most)
		}, func(r repArgs) string {
			code, counts := r.listCode(false), []int{0}
			for _, d := range r.list {
				if code == impl.OK {
					counts = append(counts, len(placesOf(d)))
				}
			}
			return answers(code, slices.Max(counts))
		}},
	}
}

func callsOfChangeTexts() []repCall {
	return []repCall{
		{"ChangesText", func(r repArgs) string { return impl.ChangesText(r.changes) }, func(r repArgs) string {
			text := rawChanges(r.changes)
			if _, code := modelReadChanges(text); code != impl.OK {
				return ""
			}
			return text
		}},
		{"ReadChanges", func(r repArgs) string {
			list, c := impl.ReadChanges(r.text)
			return answers(c, list)
		}, func(r repArgs) string {
			list, code := modelReadChanges(r.text)
			return answers(code, list)
		}},
	}
}

func checkRepertoire(t *testing.T, c repCall, r repArgs) string {
	t.Helper()
	got, want := c.run(r), c.want(r)
	if got != want {
		t.Errorf("%s: %s: got %q, want %q", c.name, r, got, want)
	}
	return got
}

// TestModelRepertoire asks also that each function has told a result, and each of its errors, often enough.
func TestModelRepertoire(t *testing.T) {
	found := map[string]int{}
	random := rand.New(rand.NewSource(81))
	for range 3000 {
		r := randomRepertoire(random)
		for _, c := range repCalls() {
			first, rest, _ := strings.Cut(checkRepertoire(t, c, r), ";")
			found[c.name+" "+first]++
			found[c.name+" "+first+rest]++
		}
	}
	for _, what := range []string{
		"ChangesBetween ok", "MakeChanges ok", "MakeChanges range", "MakeChanges state", "FirstBadChange ok", "FirstBadChange notfound", "UndoChanges ok",
		"ChangeCost ok", "TurnedCost ok", "CostTable ok", "CostTable limit", "OrderCost ok", "OrderCost state", "OrderCost limit",
		"CheckOrder ok true", "CheckOrder ok false", "CheckOrder limit", "BestOrder ok", "BestOrder range", "BestOrder limit", "BestOrder notfound",
		"BestCircle ok", "BestCircle limit", "BestCircle notfound", "NearestOrder ok", "NearestOrder range", "NearestOrder limit", "NearestOrder notfound",
		"TreeOf ok", "TreeOf limit", "TreeOf notfound", "CheckTree ok true", "CheckTree ok false", "CheckTree limit",
		"SharedPins ok", "SharedPins limit", "SharedPins notfound", "UnionOf ok", "UnionOf limit", "CanShare ok true", "CanShare ok false",
		"ShareGroups ok", "ShareGroups limit", "PinsNeeded ok", "PinsNeeded limit", "ReadChanges ok", "ReadChanges syntax",
	} {
		if found[what] < 40 {
			t.Errorf("the tests look at too few cases of %s: %d", what, found[what])
		}
	}
}

// TestModelManyDrums goes through all orders of up to MaxDrums drums, and all trees of up to 7.
func TestModelManyDrums(t *testing.T) {
	random := rand.New(rand.NewSource(82))
	trees := repCallsNamed("TreeOf CheckTree")
	orders := repCallsNamed("BestOrder BestCircle NearestOrder")
	for i := range 48 {
		r := repArgs{f: randomFrame(random)}
		count := 6 + i%3
		r.list, r.n = randomDrums(random, r.f, count), int64(i%(count+1)-1)
		for _, c := range orders {
			checkRepertoire(t, c, r)
		}
		for range 3 {
			if r.tree = randomTree(random, count); count < 8 {
				checkRepertoire(t, trees[0], r)
			}
			checkRepertoire(t, trees[1], r)
		}
	}
}

// TestModelEqualCosts goes through all lists of three and four drums out of few, so that most costs are equal.
func TestModelEqualCosts(t *testing.T) {
	f := frame(3, 24, 1)
	few := allDrums(f)
	calls := repCallsNamed("BestOrder BestCircle NearestOrder TreeOf")
	for count := 3; count <= 4; count++ {
		all := 1
		for range count {
			all *= len(few)
		}
		for number := range all {
			r := repArgs{f: f}
			for rest := number; len(r.list) < count; rest /= len(few) {
				r.list = append(r.list, few[rest%len(few)])
			}
			r.n = int64(number%(count+1) - 1)
			for _, c := range calls {
				checkRepertoire(t, c, r)
			}
		}
	}
}

// TestModelAllTrees asks CheckTree for all trees of small lists.
func TestModelAllTrees(t *testing.T) {
	check := repCallsNamed("CheckTree")[0]
	found := map[string]int{}
	random := rand.New(rand.NewSource(83))
	for i := range 120 {
		r := repArgs{f: randomFrame(random)}
		count := 2 + i%4
		r.list = randomDrums(random, r.f, count)
		for _, tree := range treesOf(count) {
			r.tree = slices.Clone(tree)
			random.Shuffle(len(tree), func(i, j int) { r.tree[i], r.tree[j] = r.tree[j], r.tree[i] })
			found[checkRepertoire(t, check, r)]++
		}
	}
	if found["ok; true"] < 100 || found["ok; false"] < 100 {
		t.Errorf("the tests look at too few trees: %v", found)
	}
}

// repertoiresOf are arguments with a frame and drums that are valid for it, or not.
func repertoiresOf(f impl.Frame) []repArgs {
	small := frame(8, 24, 1)
	lists, bad := listsFor(small), []impl.Drum{{95: 1}, {0: 1 << len(f.Hammers)}}
	if modelFrame(f) {
		lists, bad = append(lists, listsFor(f)...), append(bad, invalidDrumsFor(f)[:2]...)
	}
	if int(f.Steps)*len(f.Hammers) > 500 {
		// The model takes long for drums with many pins.
		lists = lists[:len(lists)-12]
	}
	var all []repArgs
	for i, list := range lists {
		r := repArgs{f: f, a: bad[i%len(bad)], list: list, changes: changes("+0/0 -0/0"), n: int64(i%3 - 1), most: 5}
		for index := range list {
			r.order, r.a = append(r.order, int64(index)), list[index]
			r.tree = append(r.tree, [2]int64{0, int64(index + 1)})
		}
		r.tree = r.tree[:max(0, len(list)-1)]
		all = append(all, r)
		for j, d := range bad {
			r.b, r.list = d, slices.Insert(slices.Clone(list), (i+j)%(len(list)+1), d)
			all = append(all, r)
			r.a, r.b = r.b, r.a
			all = append(all, r)
		}
	}
	return all
}

// TestModelRepertoireFrames goes through frames and drums that are valid or not.
func TestModelRepertoireFrames(t *testing.T) {
	for _, f := range slices.Concat(chimeFrames(), invalidFrames()) {
		for _, r := range repertoiresOf(f) {
			for _, c := range repCalls() {
				checkRepertoire(t, c, r)
			}
		}
	}
}

// TestModelRepertoireNumbers goes through numbers that are limits, or far away.
func TestModelRepertoireNumbers(t *testing.T) {
	f := frame(8, 24, 3)
	firsts := repCallsNamed("BestOrder NearestOrder")
	lists := repCallsNamed("OrderCost CheckOrder CheckTree")
	for _, list := range [][]impl.Drum{nil, ladder(5), ladder(2, 0, 4), ladder(5, 5, 5), apartBy(4, 2), slices.Repeat(ladder(0), 8), slices.Repeat(ladder(0), 9)} {
		for _, n := range repNumbers {
			r := repArgs{f: f, list: list, n: n, most: n}
			for _, c := range firsts {
				checkRepertoire(t, c, r)
			}
			for place := range list {
				r.order, r.tree = numbersBy(len(list), 0, 1), nil
				for index := 1; index < len(list); index++ {
					r.tree = append(r.tree, [2]int64{0, int64(index)})
				}
				for _, c := range lists {
					checkRepertoire(t, c, r)
				}
				r.order[place] = n
				if place > 0 {
					r.tree[place-1] = [2]int64{n, int64(place)}
				}
				for _, c := range lists {
					checkRepertoire(t, c, r)
				}
				if place > 0 {
					r.tree[place-1] = [2]int64{0, n}
					checkRepertoire(t, lists[2], r)
				}
			}
		}
	}
}

// TestModelChangeNumbers goes through steps and tracks that are limits, or far away.
func TestModelChangeNumbers(t *testing.T) {
	calls := repCallsNamed("MakeChanges FirstBadChange UndoChanges ChangesText ReadChanges")
	for _, f := range []impl.Frame{frame(8, 24, 3), frame(2, 24, 1, 24, 2), frame(96, 24, 1), likeHammers(96, 24, 0, 2, 20), likeHammers(40, 23, 0, 2, 1)} {
		for _, step := range []int16{-32768, -256, -96, -1, 0, 1, 2, 7, 8, 9, 39, 40, 95, 96, 97, 255, 256, 352, 32767} {
			for _, track := range []int8{-128, -24, -1, 0, 1, 2, 3, 22, 23, 24, 25, 31, 32, 63, 64, 127} {
				for _, put := range []bool{false, true} {
					c := impl.Change{Step: step, Track: track, Put: put}
					full := impl.Drum{1: allTracks(f)}
					if step >= 0 && step < f.Steps {
						full[step] = allTracks(f)
					}
					for _, a := range []impl.Drum{{}, full} {
						first := impl.Change{Step: 1, Put: a[1] == 0}
						for _, list := range [][]impl.Change{{c}, {first, c}, {c, c}, {c, first}} {
							r := repArgs{f: f, a: a, changes: list, text: rawChanges(list)}
							for _, call := range calls {
								checkRepertoire(t, call, r)
							}
						}
					}
				}
			}
		}
	}
}

// TestModelTurnedDrums goes through all pairs of drums of small frames, and through drums that are turned.
func TestModelTurnedDrums(t *testing.T) {
	calls := repCallsNamed("ChangesBetween ChangeCost TurnedCost CanShare")
	for _, f := range []impl.Frame{frame(2, 24, 1), frame(2, 24, 2, 25, 1), frame(3, 24, 2), frame(4, 24, 2), frame(5, 24, 3), frame(3, 24, 3, 24, 2)} {
		for _, a := range allDrums(f) {
			for _, b := range allDrums(f) {
				for _, c := range calls {
					checkRepertoire(t, c, repArgs{f: f, a: a, b: b})
				}
			}
		}
	}
	random := rand.New(rand.NewSource(84))
	for range 500 {
		f := randomFrame(random)
		a := randomDrum(random, f, 2+random.Intn(6))
		b, _ := impl.TurnDrum(f, a, int64(random.Intn(int(f.Steps))))
		if random.Intn(2) == 0 {
			b[random.Intn(int(f.Steps))] ^= 1
		}
		for _, c := range calls {
			checkRepertoire(t, c, repArgs{f: f, a: a, b: b})
		}
	}
}

// TestModelGroups gives drums with few pins, which clash together now and then, to groups.
func TestModelGroups(t *testing.T) {
	group := repCallsNamed("ShareGroups")[0]
	found := map[int]int{}
	random := rand.New(rand.NewSource(85))
	for range 2000 {
		r := repArgs{f: randomFrame(random)}
		for range random.Intn(9) {
			r.list = append(r.list, randomDrum(random, r.f, 8+random.Intn(30)))
		}
		checkRepertoire(t, group, r)
		_, count := r.modelGroups()
		found[count]++
	}
	for count := range 7 {
		if found[count] < 20 {
			t.Errorf("the tests look at too few lists with %d groups: %d", count, found[count])
		}
	}
}

func TestModelChangesTexts(t *testing.T) {
	read := repCallsNamed("ReadChanges")[0]
	for text := range changeTexts() {
		checkRepertoire(t, read, repArgs{text: text})
	}
	for _, text := range []string{"", "+0/0", "-95/23", "-0/0 +2/0", "+10/1 +9/10 -1/2", "+9/9 +23/2", "-1/1 -1/1"} {
		for _, near := range append(nearTexts(text), text+" ", " "+text, text+" "+text, text+"  "+text, text+text, strings.ReplaceAll(text, "+", "-"), strings.ReplaceAll(text, "+", ""), strings.ReplaceAll(text, "/", ":"), strings.ReplaceAll(text, "/", " "), strings.ReplaceAll(text, " ", "\n")) {
			checkRepertoire(t, read, repArgs{text: near})
		}
	}
}
