package tests

import (
	"fmt"
	"math"
	"math/rand"
	"slices"
	"strings"

	"loop.example/g01311/impl"
)

// repArgs are arguments for the functions of chapter 5, each of which takes some of them.
type repArgs struct {
	f       impl.Frame
	a, b    impl.Drum
	list    []impl.Drum
	changes []impl.Change
	order   []int64
	tree    [][2]int64
	n, most int64
	text    string
}

func (a repArgs) String() string {
	return fmt.Sprintf("%s; %s; %s; %q; %s; %v; %v; %d %d; %q", rawFrame(a.f), rawDrum(a.a), rawDrum(a.b), rawDrums(a.list), rawChanges(a.changes), a.order, a.tree, a.n, a.most, a.text)
}

func rawDrums(list []impl.Drum) []string {
	var texts []string
	for _, d := range list {
		texts = append(texts, rawDrum(d))
	}
	return texts
}

// rawChanges shows changes by their numbers, whether there can be a text of them or not.
func rawChanges(list []impl.Change) string {
	var parts []string
	for _, c := range list {
		parts = append(parts, fmt.Sprintf("%s%d/%d", map[bool]string{true: "+", false: "-"}[c.Put], c.Step, c.Track))
	}
	return strings.Join(parts, " ")
}

// changes makes a list of what rawChanges shows.
func changes(text string) []impl.Change {
	var list []impl.Change
	for _, part := range strings.Fields(text) {
		c := impl.Change{Put: part[0] == '+'}
		if count, err := fmt.Sscanf(part[1:], "%d/%d", &c.Step, &c.Track); count != 2 || err != nil {
			panic("no changes: " + text)
		}
		list = append(list, c)
	}
	return list
}

// manyChanges puts a pin and takes it out again until there are so many changes.
func manyChanges(count int) []impl.Change {
	list := []impl.Change{}
	for i := range count {
		list = append(list, impl.Change{Step: 1, Track: 0, Put: i%2 == 0})
	}
	return list
}

// ladder makes a drum for each height, with so many pins: two of them cost as much as their heights differ.
func ladder(heights ...int) []impl.Drum {
	list := []impl.Drum{}
	for _, height := range heights {
		var d impl.Drum
		for step := range height {
			d[step] = 1
		}
		list = append(list, d)
	}
	return list
}

// apartBy makes count drums, any two of which cost 2 * size.
func apartBy(count, size int) []impl.Drum {
	list := []impl.Drum{}
	for i := range count {
		var d impl.Drum
		for k := range size {
			d[i*size+k] = 1
		}
		list = append(list, d)
	}
	return list
}

// likeDrums are drums that differ by a few pins alone, so that many of their costs are equal; some of them are equal themselves.
func likeDrums(random *rand.Rand, f impl.Frame, count int) []impl.Drum {
	first := randomDrum(random, f, 1+random.Intn(6))
	list := []impl.Drum{}
	for range count {
		d := first
		if len(list) > 0 && random.Intn(3) == 0 {
			d = list[random.Intn(len(list))]
		}
		for range random.Intn(5) {
			d[random.Intn(int(f.Steps))] ^= 1 << random.Intn(len(f.Hammers))
		}
		list = append(list, d)
	}
	return list
}

// randomDrums are like each other, or not, or have few pins.
func randomDrums(random *rand.Rand, f impl.Frame, count int) []impl.Drum {
	if random.Intn(2) == 0 {
		return likeDrums(random, f, count)
	}
	list, one := []impl.Drum{}, 2+random.Intn(8)
	for range count {
		list = append(list, randomDrum(random, f, one))
	}
	return list
}

// randomOrder is an order of so many drums, or, now and then, almost one.
func randomOrder(random *rand.Rand, count int) []int64 {
	order := []int64{}
	for _, index := range random.Perm(count) {
		order = append(order, int64(index))
	}
	switch random.Intn(12) {
	case 0:
		order = append(order, int64(random.Intn(count+1)))
	case 1:
		order = order[:max(0, count-1)]
	case 2:
		if count > 0 {
			order[random.Intn(count)] = int64(random.Intn(count+2) - 1)
		}
	}
	return order
}

// randomTree is a tree of so many drums, whatever it costs, or, now and then, almost one.
func randomTree(random *rand.Rand, count int) [][2]int64 {
	tree := [][2]int64{}
	names := random.Perm(count)
	for i := 1; i < count; i++ {
		a, b := int64(names[i]), int64(names[random.Intn(i)])
		tree = append(tree, [2]int64{min(a, b), max(a, b)})
	}
	if len(tree) == 0 {
		return tree
	}
	switch one := random.Intn(len(tree)); random.Intn(12) {
	case 0:
		tree[one][0], tree[one][1] = tree[one][1], tree[one][0]
	case 1:
		tree = slices.Delete(tree, one, one+1)
	case 2:
		tree = append(tree, tree[one])
	case 3:
		tree[one] = [2]int64{int64(random.Intn(count)), int64(random.Intn(count + 1))}
	}
	return tree
}

// randomChanges can be made of a drum, but for a few.
func randomChanges(random *rand.Rand, f impl.Frame, d impl.Drum) []impl.Change {
	list := []impl.Change{}
	for range random.Intn(12) {
		step, track := random.Intn(int(f.Steps)), random.Intn(len(f.Hammers))
		c := impl.Change{Step: int16(step), Track: int8(track), Put: d[step]>>track&1 == 0}
		d[step] ^= 1 << track
		switch random.Intn(40) {
		case 0:
			c.Put = !c.Put
		case 1:
			c.Step = f.Steps - int16(random.Intn(2))
		case 2:
			c.Track = int8(len(f.Hammers) - random.Intn(2))
		}
		list = append(list, c)
	}
	return list
}

// randomRepertoire is mostly such that the functions have something to tell.
func randomRepertoire(random *rand.Rand) repArgs {
	r := repArgs{f: randomFrame(random)}
	count := random.Intn(6)
	if random.Intn(20) == 0 {
		count = 9
	}
	r.list = randomDrums(random, r.f, count)
	pair := randomDrums(random, r.f, 2)
	r.a, r.b = pair[0], pair[1]
	r.order, r.tree = randomOrder(random, count), randomTree(random, count)
	r.changes = randomChanges(random, r.f, r.a)
	r.n, r.most = int64(random.Intn(count+3)-1), int64(random.Intn(80)-4)
	r.text = rawChanges(r.changes)
	if cut := random.Intn(len(r.text) + 1); cut < len(r.text) && random.Intn(3) == 0 {
		r.text = r.text[:cut] + r.text[cut+1:]
	}
	return r
}

// listsFor are lists of drums for a frame: with none, with one, with equal ones, and with up to MaxDrums of them.
func listsFor(f impl.Frame) [][]impl.Drum {
	random := rand.New(rand.NewSource(int64(f.Steps) + 90))
	full, ends := fullDrum(f), impl.Drum{0: 1}
	ends[f.Steps-1] = 1
	lists := [][]impl.Drum{
		nil,
		{},
		{{}},
		{full},
		{{}, {}},
		{{}, full},
		{ends, full, ends},
		slices.Repeat([]impl.Drum{ends}, 5),
		{spacedDrum(f, 0, 0), spacedDrum(f, 1, 0), spacedDrum(f, 0, -1), {}, spacedDrum(f, 0, 1)},
	}
	for count := 2; count <= 5; count++ {
		lists = append(lists, likeDrums(random, f, count), randomDrums(random, f, count))
	}
	return lists
}

// repNumbers are limits of indices and costs, the numbers beside them, and numbers that are others when bits are lost.
var repNumbers = []int64{
	math.MinInt64, math.MinInt64 + 1, -1 << 32, -1<<32 - 1, -1 << 16, -256, -9, -8, -2, -1,
	0, 1, 2, 3, 4, 5, 6, 7, 8, 9, 10, 15, 16, 24, 63, 64, 255, 256, 257, 1 << 16, 1<<16 + 1, 1 << 32, 1<<32 + 1, math.MaxInt64 - 1, math.MaxInt64,
}
