package tests

import (
	"math/rand"
	"slices"
	"testing"

	"loop.example/g03303/impl"
)

// weightsNotOk and limitsOfCratesNotOk are just past each limit, and the extreme
// ints.
var (
	weightsNotOk        = []int{-1, 10001, leastInt, greatestInt}
	limitsOfCratesNotOk = []int{-1, 100001, leastInt, greatestInt}
)

func crateOf(limit int, panes ...int) impl.Crate { return impl.Crate{Panes: panes, Limit: limit} }

func sumOf(weights []int, panes []int) int {
	sum := 0
	for _, i := range panes {
		sum += weights[i]
	}
	return sum
}

// packedByHand looks for the heaviest pane that is left, again and again. Indices
// are kept in ascending order.
func packedByHand(weights []int, limit int) [][]int {
	crates := [][]int{}
	left := indicesOf(len(weights))
	for len(left) > 0 {
		heaviest := left[0]
		for _, i := range left {
			if weights[i] > weights[heaviest] {
				heaviest = i
			}
		}
		left = slices.DeleteFunc(left, func(i int) bool { return i == heaviest })
		fits := func(panes []int) bool { return sumOf(weights, panes)+weights[heaviest] <= limit }
		at := slices.IndexFunc(crates, fits)
		if at < 0 {
			at = len(crates)
			crates = append(crates, nil)
		}
		crates[at] = append(crates[at], heaviest)
		slices.Sort(crates[at])
	}
	return crates
}

// fewestByHand tries all ways to put panes into crates.
func fewestByHand(weights []int, limit int) int {
	fewest := len(weights)
	loads := []int{}
	var fill func(i int)
	fill = func(i int) {
		if i == len(weights) {
			fewest = min(fewest, len(loads))
			return
		}
		for k := range loads {
			if loads[k]+weights[i] <= limit {
				loads[k] += weights[i]
				fill(i + 1)
				loads[k] -= weights[i]
			}
		}
		loads = append(loads, weights[i])
		fill(i + 1)
		loads = loads[:len(loads)-1]
	}
	fill(0)
	return fewest
}

func panesOfCrates(crates []impl.Crate) [][]int {
	lists := [][]int{}
	for _, c := range crates {
		lists = append(lists, c.Panes)
	}
	return lists
}

func cratesOf(limit int, lists ...[]int) []impl.Crate {
	crates := []impl.Crate{}
	for _, panes := range lists {
		crates = append(crates, crateOf(limit, panes...))
	}
	return crates
}

func randomWeights(source *rand.Rand, count int, greatest int) []int {
	weights := []int{}
	for range count {
		weights = append(weights, source.Intn(greatest+1))
	}
	return weights
}

func TestCrateWeight(t *testing.T) {
	weights := []int{30, 60, 0, 10}
	cases := []struct {
		name    string
		weights []int
		c       impl.Crate
		want    int
		ok      bool
	}{
		{"two panes", weights, crateOf(80, 0, 3), 40, true},
		{"all panes", weights, crateOf(100, 0, 1, 2, 3), 100, true},
		{"one above the limit", weights, crateOf(99, 0, 1, 2, 3), 100, false},
		{"no panes", weights, crateOf(80), 0, true},
		{"no panes, and no limit", weights, crateOf(0), 0, true},
		{"no weights", nil, crateOf(5), 0, true},
		{"a pane without weight", weights, crateOf(0, 2), 0, true},
		{"the limit 0", weights, crateOf(0, 3), 10, false},
		{"the greatest limit", weights, crateOf(100000, 1), 60, true},
		{"the greatest weight", []int{10000}, crateOf(10000, 0), 10000, true},
		{"more than 20 weights", slices.Repeat([]int{10000}, 21), crateOf(100000, indicesOf(10)...), 100000, true},
		{"more than any limit", slices.Repeat([]int{10000}, 21), crateOf(100000, indicesOf(21)...), 210000, false},
		{"not ascending", weights, crateOf(80, 1, 0), -1, false},
		{"twice there", weights, crateOf(200, 1, 1), -1, false},
		{"twice there, apart", weights, crateOf(200, 0, 1, 0), -1, false},
	}
	for _, i := range wrongIndices(4) {
		cases = append(cases, struct {
			name    string
			weights []int
			c       impl.Crate
			want    int
			ok      bool
		}{"no such pane, " + impl.FormatInt(i), weights, crateOf(100, i), -1, false})
	}
	for _, c := range cases {
		if got, ok := impl.CrateWeight(c.weights, c.c), impl.CrateOk(c.weights, c.c); got != c.want || ok != c.ok {
			t.Errorf("%s: CrateWeight = %d and CrateOk = %v; want %d and %v", c.name, got, ok, c.want, c.ok)
		}
	}
	for _, limit := range limitsOfCratesNotOk {
		for _, panes := range [][]int{nil, {0}, {0, 1}} {
			if got, ok := impl.CrateWeight(weights, crateOf(limit, panes...)), impl.CrateOk(weights, crateOf(limit, panes...)); got != -1 || ok {
				t.Errorf("CrateWeight = %d and CrateOk = %v with the limit %d", got, ok, limit)
			}
		}
	}
	for _, wrong := range weightsNotOk {
		for i := range weights {
			// A wrong weight counts even if its pane is not in the crate.
			for _, panes := range [][]int{nil, {i}, {(i + 1) % 4}} {
				c := crateOf(100000, panes...)
				if got, ok := impl.CrateWeight(changed(weights, i, wrong), c), impl.CrateOk(changed(weights, i, wrong), c); got != -1 || ok {
					t.Errorf("CrateWeight = %d and CrateOk = %v of %v with the weight %d at %d", got, ok, panes, wrong, i)
				}
			}
		}
	}
}

func TestPackCratesByHand(t *testing.T) {
	cases := []struct {
		name    string
		weights []int
		limit   int
		want    [][]int
	}{
		{"two crates", []int{30, 60, 50, 10}, 80, [][]int{{1, 3}, {0, 2}}},
		{"no panes", nil, 80, nil},
		{"no panes, and no limit", []int{}, 0, nil},
		{"panes without weight", []int{0, 0, 0}, 0, [][]int{{0, 1, 2}}},
		{"panes without weight go into the first crate", []int{0, 9, 0, 9}, 9, [][]int{{0, 1, 2}, {3}}},
		{"equal weights", []int{4, 4, 4, 4, 4}, 8, [][]int{{0, 1}, {2, 3}, {4}}},
		{"just the limit", []int{7, 7}, 7, [][]int{{0}, {1}}},
		{"a full crate", []int{3, 4}, 7, [][]int{{0, 1}}},
		{"one above it", []int{4, 4}, 7, [][]int{{0}, {1}}},
		{"the first crate with room, not the last one", []int{7, 6, 2, 3}, 10, [][]int{{0, 3}, {1, 2}}},
		{"and not the fullest one", []int{6, 7, 3, 1}, 10, [][]int{{1, 2}, {0, 3}}},
		{"the lesser index first", []int{5, 6, 5, 4}, 11, [][]int{{0, 1}, {2, 3}}},
		{"more than are needed", []int{5, 5, 4, 4, 3, 3, 3, 3}, 15, [][]int{{0, 1, 2}, {3, 4, 5, 6}, {7}}},
		{"the greatest weight and limit", slices.Repeat([]int{10000}, 11), 100000, [][]int{indicesOf(10), {10}}},
		{"20 weights", slices.Repeat([]int{1}, 20), 20, [][]int{indicesOf(20)}},
	}
	for _, c := range cases {
		got, ok := impl.PackCrates(c.weights, c.limit)
		if !ok || !sameLists(panesOfCrates(got), c.want) {
			t.Errorf("%s: PackCrates = %v, %v; want %v", c.name, got, ok, c.want)
		}
		for _, crate := range got {
			if crate.Limit != c.limit {
				t.Errorf("%s: a crate has the limit %d; want %d", c.name, crate.Limit, c.limit)
			}
		}
	}
}

func TestCratesThatCannotBePacked(t *testing.T) {
	weights := []int{3, 9, 4}
	check := func(name string, weights []int, limit int) {
		t.Helper()
		if got, ok := impl.PackCrates(weights, limit); ok || len(got) != 0 {
			t.Errorf("%s: PackCrates = %v, %v", name, got, ok)
		}
	}
	check("a pane one above the limit", weights, 8)
	check("the last pane is above the limit", []int{3, 4, 9}, 8)
	check("all are above the limit", weights, 0)
	check("21 weights", slices.Repeat([]int{1}, 21), 100)
	check("21 panes without weight", make([]int, 21), 100)
	for _, limit := range limitsOfCratesNotOk {
		check("the limit "+impl.FormatInt(limit), weights, limit)
		check("no panes, with the limit "+impl.FormatInt(limit), nil, limit)
		check("a pane without weight, with the limit "+impl.FormatInt(limit), []int{0}, limit)
	}
	for _, wrong := range weightsNotOk {
		for i := range weights {
			check("the weight "+impl.FormatInt(wrong), changed(weights, i, wrong), 100000)
		}
	}
}

func TestEveryPaneTravelsInOneCrate(t *testing.T) {
	source := rand.New(rand.NewSource(31))
	for round := range 600 {
		greatest := []int{0, 1, 5, 30, 10000}[round%5]
		weights := randomWeights(source, source.Intn(21), greatest)
		limit := slices.Max(append(weights, 1)) + source.Intn(1+greatest*2)
		crates, ok := impl.PackCrates(weights, limit)
		if !ok || !sameLists(panesOfCrates(crates), packedByHand(weights, limit)) {
			t.Errorf("PackCrates(%v, %d) = %v, %v; want %v", weights, limit, crates, ok, packedByHand(weights, limit))
			continue
		}
		times := make([]int, len(weights))
		for _, c := range crates {
			for _, i := range c.Panes {
				times[i]++
			}
			if sumOf(weights, c.Panes) > limit || c.Limit != limit || !impl.CrateOk(weights, c) {
				t.Errorf("PackCrates(%v, %d) makes the crate %v", weights, limit, c)
			}
		}
		if len(times) > 0 && (slices.Min(times) != 1 || slices.Max(times) != 1) || !impl.ArePacked(weights, crates) {
			t.Errorf("PackCrates(%v, %d) = %v does not have each pane once", weights, limit, crates)
		}
	}
}

func TestTheNumberOfCratesIsAtMostTwiceTheOneNeeded(t *testing.T) {
	source := rand.New(rand.NewSource(310))
	for range 400 {
		weights := randomWeights(source, source.Intn(8), 12)
		limit := slices.Max(append(weights, 1)) + source.Intn(12)
		crates, _ := impl.PackCrates(weights, limit)
		needed, bound := fewestByHand(weights, limit), impl.CrateBound(weights, limit)
		if len(crates) < needed || len(crates) > 2*needed || bound > needed {
			t.Errorf("PackCrates(%v, %d) makes %d crates; %d are needed, and CrateBound = %d", weights, limit, len(crates), needed, bound)
		}
		sum := sumOf(weights, indicesOf(len(weights)))
		if bound*limit < sum || (bound-1)*limit >= sum && sum > 0 || sum == 0 && bound != 0 {
			t.Errorf("CrateBound(%v, %d) = %d", weights, limit, bound)
		}
	}
}

func TestArePacked(t *testing.T) {
	weights := []int{30, 60, 50, 10}
	cases := []struct {
		name    string
		weights []int
		list    []impl.Crate
		want    bool
	}{
		{"two crates", weights, cratesOf(80, []int{1, 3}, []int{0, 2}), true},
		{"in another order", weights, cratesOf(80, []int{0, 2}, []int{1, 3}), true},
		{"crates of different limits", weights, []impl.Crate{crateOf(60, 1), crateOf(50, 2), crateOf(100000, 0, 3)}, true},
		{"more crates than are needed", weights, cratesOf(60, []int{0}, []int{1}, nil, []int{2}, []int{3}), true},
		{"empty crates alone", nil, cratesOf(0, nil, nil), true},
		{"no crates and no panes", nil, nil, true},
		{"no crates", weights, nil, false},
		{"no crates, for a pane without weight", []int{0}, nil, false},
		{"a pane is missing", weights, cratesOf(80, []int{1, 3}, []int{0}), false},
		{"a pane is in two crates", weights, cratesOf(80, []int{1, 3}, []int{0, 2}, []int{3}), false},
		{"one is in two crates, another one missing", weights, cratesOf(80, []int{1, 3}, []int{0, 3}), false},
		{"a pane is twice in one crate", weights, cratesOf(200, []int{1, 3, 3}, []int{0}), false},
		{"a crate one too heavy", weights, cratesOf(79, []int{1, 3}, []int{0, 2}), false},
		{"panes that are not ascending", weights, cratesOf(80, []int{3, 1}, []int{0, 2}), false},
		{"a limit that is not valid", weights, append(cratesOf(80, []int{1, 3}, []int{0, 2}), crateOf(-1)), false},
		{"a pane that is not there", weights, cratesOf(80, []int{1, 3}, []int{0, 2}, []int{4}), false},
		{"a crate for no panes", nil, cratesOf(80, []int{0}), false},
		{"a weight that is not valid", []int{1, 10001}, cratesOf(100000, []int{0}), false},
		{"more than 20 weights", slices.Repeat([]int{1}, 21), cratesOf(21, indicesOf(21)), true},
	}
	for _, c := range cases {
		if got := impl.ArePacked(c.weights, c.list); got != c.want {
			t.Errorf("%s: ArePacked = %v", c.name, got)
		}
	}
}

func TestCrateBound(t *testing.T) {
	weights := []int{30, 60, 50, 10}
	cases := []struct {
		name    string
		weights []int
		limit   int
		want    int
	}{
		{"just two", weights, 75, 2}, {"rounded up", weights, 74, 3}, {"just one", weights, 150, 1}, {"room for more", weights, 151, 1},
		{"lighter than a pane", weights, 1, 150}, {"the greatest limit", weights, 100000, 1},
		{"no panes", nil, 5, 0}, {"panes without weight", []int{0, 0}, 5, 0}, {"a little weight", []int{0, 1}, 100000, 1},
		{"the greatest weights", slices.Repeat([]int{10000}, 21), 10000, 21},
		{"the limit 0", weights, 0, 0},
	}
	for _, c := range cases {
		if got := impl.CrateBound(c.weights, c.limit); got != c.want {
			t.Errorf("%s: CrateBound = %d; want %d", c.name, got, c.want)
		}
	}
	for _, limit := range limitsOfCratesNotOk {
		if got := impl.CrateBound(weights, limit); got != 0 {
			t.Errorf("CrateBound with the limit %d = %d; want 0", limit, got)
		}
	}
	for _, wrong := range weightsNotOk {
		for i := range weights {
			if got := impl.CrateBound(changed(weights, i, wrong), 50); got != 0 {
				t.Errorf("CrateBound with the weight %d = %d; want 0", wrong, got)
			}
		}
	}
}

func TestCratesLeaveArgumentsAsTheyAre(t *testing.T) {
	weights, areUntouched := roomyList([]int{30, 60, 50, 10, 60, 0})
	checkFresh(t, "PackCrates", func() [][]int {
		crates, _ := impl.PackCrates(weights, 80)
		return panesOfCrates(crates)
	})
	first, firstUntouched := roomyList([]int{1, 3})
	second, secondUntouched := roomyList([]int{0, 2})
	list := []impl.Crate{crateOf(80, first...), crateOf(90, second...), crateOf(60, 4), crateOf(0, 5), crateOf(7)}
	impl.CrateWeight(weights, list[0])
	impl.CrateOk(weights, list[1])
	impl.CrateBound(weights, 80)
	if !impl.ArePacked(weights, list[:4]) || list[4].Limit != 7 || len(list[4].Panes) != 0 {
		t.Error("the crates are not packed, or one behind them is modified")
	}
	if !areUntouched() || !firstUntouched() || !secondUntouched() {
		t.Error("an argument is modified, or a result shares its memory")
	}
}
