package tests

import (
	"math/rand"
	"slices"
	"testing"

	"loop.example/g03303/impl"
)

// isAssemblyByHand looks back from each face of the order.
func isAssemblyByHand(w impl.Window, beside [][]int, order []int) bool {
	sorted := slices.Clone(order)
	slices.Sort(sorted)
	if !slices.Equal(sorted, facesWithin(w)) {
		return false
	}
	for i, f := range order {
		isHeld := slices.ContainsFunc(order[:i], func(g int) bool { return slices.Contains(beside[f], g) })
		if i > 0 && !isHeld {
			return false
		}
	}
	return true
}

// ordersOf returns all orders of a list.
func ordersOf(list []int) [][]int {
	if len(list) == 0 {
		return [][]int{{}}
	}
	orders := [][]int{}
	for i, f := range list {
		rest := slices.Delete(slices.Clone(list), i, i+1)
		for _, order := range ordersOf(rest) {
			orders = append(orders, append([]int{f}, order...))
		}
	}
	return orders
}

// countOrders goes on with each face that is beside one of those that are set.
func countOrders(beside [][]int, within []int, set []int) int {
	if len(set) == len(within) {
		return 1
	}
	count := 0
	for _, f := range within {
		isBeside := slices.ContainsFunc(set, func(g int) bool { return slices.Contains(beside[f], g) })
		if !slices.Contains(set, f) && (len(set) == 0 || isBeside) {
			count += countOrders(beside, within, append(slices.Clone(set), f))
		}
	}
	return count
}

// firstByHand needs a face other than the wall around.
func firstByHand(beside [][]int, within []int, first int) []int {
	order := []int{first}
	for range within {
		for _, f := range within {
			isBeside := slices.ContainsFunc(order, func(g int) bool { return slices.Contains(beside[f], g) })
			if !slices.Contains(order, f) && isBeside {
				order = append(order, f)
				break
			}
		}
	}
	return order
}

// hangTogether treats the faces of a list as the nodes of a graph.
func hangTogether(beside [][]int, list []int) bool {
	if len(list) == 0 {
		return false
	}
	graph := impl.Window{Nodes: make([]impl.Node, len(list))}
	for i, f := range list {
		for j, g := range list {
			if slices.Contains(beside[f], g) {
				graph.Leads = append(graph.Leads, impl.Lead{From: i, To: j})
			}
		}
	}
	return !slices.Contains(reachedFrom(graph, 0), false)
}

func numberOf(list []int) int {
	number := 0
	for _, f := range list {
		number += 1 << f
	}
	return number
}

func TestAssembliesByHand(t *testing.T) {
	whole := wholeWindows()
	cases := []struct {
		window string
		first  int
		order  []int
		count  int
	}{
		{"sample", 0, []int{0, 2, 3, 4}, 16},
		{"sample", 3, []int{3, 2, 0, 4}, 16},
		{"sample", 4, []int{4, 0, 2, 3}, 16},
		{"triangle", 0, []int{0}, 1},
		{"backwards", 1, []int{1}, 1},
		{"two cells", 2, []int{2, 0}, 2},
		{"inner spike", 0, []int{0}, 1},
		{"outer spike", 0, []int{0}, 1},
		{"four in all", 0, nil, 6},
		{"wheel", 0, nil, 40},
		{"hanging pane", 0, []int{0, 2}, 2},
	}
	for _, c := range cases {
		w := whole[c.window]
		if got := impl.CountAssemblies(w); got != c.count {
			t.Errorf("%s: CountAssemblies = %d; want %d", c.window, got, c.count)
		}
		if c.order == nil {
			continue
		}
		if got, ok := impl.FirstAssembly(w, c.first); !ok || !slices.Equal(got, c.order) {
			t.Errorf("%s: FirstAssembly(%d) = %v, %v; want %v", c.window, c.first, got, ok, c.order)
		}
		if !impl.IsAssembly(w, c.order) {
			t.Errorf("%s: IsAssembly(%v) = false", c.window, c.order)
		}
	}
}

func TestWindowsWithoutPanesHaveOneOrder(t *testing.T) {
	for _, name := range []string{"one lead", "steep lead", "path", "sun"} {
		w := wholeWindows()[name]
		if !impl.IsAssembly(w, nil) || !impl.IsAssembly(w, []int{}) || impl.IsAssembly(w, []int{0}) {
			t.Errorf("%s: the empty order is not the only assembly", name)
		}
		if got := impl.CountAssemblies(w); got != 1 {
			t.Errorf("%s: CountAssemblies = %d; want 1", name, got)
		}
		for f := -1; f <= 2; f++ {
			if got, ok := impl.FirstAssembly(w, f); ok || len(got) != 0 {
				t.Errorf("%s: FirstAssembly(%d) = %v, %v", name, f, got, ok)
			}
		}
		for set := -2; set <= 4; set++ {
			if impl.AreJoined(w, set) || len(impl.LooseAfter(w, set)) != 0 {
				t.Errorf("%s: the set %d is joined", name, set)
			}
		}
	}
}

func TestPanesThatDoNotHangTogether(t *testing.T) {
	for name, panes := range map[string][]int{"bridge": {0, 2}, "bow tie": {1, 2}} {
		w := wholeWindows()[name]
		if got := impl.CountAssemblies(w); got != 0 {
			t.Errorf("%s: CountAssemblies = %d; want 0", name, got)
		}
		for _, f := range panes {
			if got, ok := impl.FirstAssembly(w, f); ok || len(got) != 0 {
				t.Errorf("%s: FirstAssembly(%d) = %v, %v", name, f, got, ok)
			}
			if set := 1 << f; !impl.AreJoined(w, set) || !slices.Equal(impl.LooseAfter(w, set), []int{f}) {
				t.Errorf("%s: face %d alone is not joined", name, f)
			}
		}
		if set := numberOf(panes); impl.AreJoined(w, set) || len(impl.LooseAfter(w, set)) != 0 || impl.IsAssembly(w, panes) {
			t.Errorf("%s: %v hang together", name, panes)
		}
	}
}

func TestOrdersThatAreNoAssemblies(t *testing.T) {
	sample := impl.SampleWindow()
	orders := [][]int{
		nil, {0}, {0, 2, 3}, {2, 3, 4}, // a face is missing
		{0, 2, 3, 3}, {0, 2, 2, 3}, {0, 0, 2, 3}, {0, 2, 3, 4, 4}, {0, 2, 3, 4, 0}, // named twice
		{0, 2, 3, 5}, {0, 2, -1, 4}, {-1, 0, 2, 3}, {0, 2, 3, 4, 5}, {0, 2, 3, greatestInt}, {leastInt, 0, 2, 3}, {0, 2, 3, 64}, // not there
		{1, 0, 2, 3}, {0, 1, 2, 3}, {0, 2, 3, 1}, {1, 0, 2, 3, 4}, {0, 2, 3, 4, 1}, // the wall around
		{0, 3, 2, 4}, {2, 4, 0, 3}, {3, 0, 2, 4}, // beside none before
		slices.Repeat([]int{0}, 1000),
	}
	for _, order := range orders {
		if impl.IsAssembly(sample, order) {
			t.Errorf("IsAssembly(%v) = true", order)
		}
	}
}

// checkAssemblies needs a window with few faces, as it goes through all orders.
func checkAssemblies(t *testing.T, name string, w impl.Window) {
	t.Helper()
	beside, within := besideLists(w), facesWithin(w)
	count := 0
	for _, order := range ordersOf(within) {
		want := isAssemblyByHand(w, beside, order)
		if want {
			count++
		}
		if got := impl.IsAssembly(w, order); got != want {
			t.Errorf("%s: IsAssembly(%v) = %v", name, order, got)
		}
	}
	if got := impl.CountAssemblies(w); got != count {
		t.Errorf("%s: CountAssemblies = %d; want %d", name, got, count)
	}
}

// checkFirst tries each face as the first one.
func checkFirst(t *testing.T, name string, w impl.Window) {
	t.Helper()
	beside, within := besideLists(w), facesWithin(w)
	for f := -1; f <= len(beside); f++ {
		want, isWanted := []int{}, false
		if slices.Contains(within, f) {
			want = firstByHand(beside, within, f)
			isWanted = isAssemblyByHand(w, beside, want)
		}
		got, ok := impl.FirstAssembly(w, f)
		if ok != isWanted || ok && !slices.Equal(got, want) || !ok && len(got) != 0 {
			t.Errorf("%s: FirstAssembly(%d) = %v, %v; want %v, %v", name, f, got, ok, want, isWanted)
		}
		if ok && !impl.IsAssembly(w, got) {
			t.Errorf("%s: IsAssembly(%v) = false", name, got)
		}
	}
}

// checkSets goes through all sets of faces, and some that no faces make.
func checkSets(t *testing.T, name string, w impl.Window) {
	t.Helper()
	beside, wall := besideLists(w), wallAround(w)
	for set := -3; set < 2<<len(beside); set++ {
		isJoined, loose := false, []int{}
		if set > 0 && set < 1<<len(beside) && set>>wall&1 == 0 {
			isJoined = hangTogether(beside, listOf(set))
		}
		for f := range beside {
			if isJoined && set>>f&1 == 1 && (set == 1<<f || hangTogether(beside, listOf(set-1<<f))) {
				loose = append(loose, f)
			}
		}
		if got := impl.AreJoined(w, set); got != isJoined {
			t.Errorf("%s: AreJoined(%d) = %v", name, set, got)
		}
		if got := impl.LooseAfter(w, set); !slices.Equal(got, loose) {
			t.Errorf("%s: LooseAfter(%d) = %v; want %v", name, set, got, loose)
		}
	}
}

func TestAssembliesOfAllOrders(t *testing.T) {
	for name, w := range someWholeWindows(17, 150) {
		if len(facesWithin(w)) <= 6 {
			checkAssemblies(t, name, w)
			checkFirst(t, name, w)
		}
		if len(facesWithin(w)) <= 4 {
			checkSets(t, name, w)
		}
	}
}

func TestPanesAreSetAndTakenAwayOneByOne(t *testing.T) {
	source := rand.New(rand.NewSource(170))
	taken := 0
	for name, w := range byName(someWholeWindows(171, 150)) {
		set := numberOf(facesWithin(w))
		first, isSet := []int{}, false
		for _, f := range facesWithin(w) {
			first, isSet = impl.FirstAssembly(w, f)
			if isSet != impl.AreJoined(w, set) {
				t.Errorf("%s: FirstAssembly(%d) = %v, %v, but AreJoined = %v", name, f, first, isSet, !isSet)
			}
		}
		away := []int{}
		for impl.AreJoined(w, set) {
			loose := impl.LooseAfter(w, set)
			if len(loose) == 0 {
				t.Errorf("%s: none of %v can be taken away", name, listOf(set))
				break
			}
			f := loose[source.Intn(len(loose))]
			away, set = append(away, f), set-1<<f
			taken++
		}
		slices.Reverse(away)
		if isSet && (set != 0 || !impl.IsAssembly(w, away)) {
			t.Errorf("%s: what is taken away cannot be set as %v", name, away)
		}
	}
	if taken < 300 {
		t.Error("too few panes are taken away:", taken)
	}
}

func TestTenFacesAndMore(t *testing.T) {
	ten, more := fullWindow(), fullOfLeads()
	if len(facesByAngle(ten)) != 10 || len(facesByAngle(more)) != 12 {
		t.Fatal("the windows have other numbers of faces:", len(facesByAngle(ten)), len(facesByAngle(more)))
	}
	want := countOrders(besideLists(ten), facesWithin(ten), nil)
	if got := impl.CountAssemblies(ten); got != want || got <= 1 {
		t.Errorf("CountAssemblies with ten faces = %d; want %d", got, want)
	}
	eleven := withoutLead(more, 19)
	if len(facesByAngle(eleven)) != 11 || impl.CountAssemblies(eleven) != -1 || impl.CountAssemblies(more) != -1 {
		t.Error("CountAssemblies with more than ten faces is not -1")
	}
	for name, w := range map[string]impl.Window{"ten": ten, "eleven": eleven, "more": more} {
		checkFirst(t, name, w)
		first, _ := impl.FirstAssembly(w, facesWithin(w)[0])
		if !impl.IsAssembly(w, first) || !impl.AreJoined(w, numberOf(facesWithin(w))) {
			t.Errorf("%s: the faces do not hang together", name)
		}
	}
	checkSets(t, "ten", ten)
}

func TestSetsThatAreNoFaces(t *testing.T) {
	sample := impl.SampleWindow()
	sets := []int{
		0, -1, -2, -29, leastInt, leastInt + 1, leastInt + 29, // empty and negative
		32, 33, 61, 1 << 20, 1 << 40, 1 << 62, greatestInt, // not there
		2, 3, 31, // the wall around
		9, 20, // apart
	}
	for _, set := range sets {
		if impl.AreJoined(sample, set) {
			t.Errorf("AreJoined(%d) = true", set)
		}
		if got := impl.LooseAfter(sample, set); len(got) != 0 {
			t.Errorf("LooseAfter(%d) = %v; want nil", set, got)
		}
	}
	for set, want := range map[int][]int{29: {0, 2, 3, 4}, 13: {0, 3}, 28: {2, 4}, 5: {0, 2}, 8: {3}} {
		if got := impl.LooseAfter(sample, set); !impl.AreJoined(sample, set) || !slices.Equal(got, want) {
			t.Errorf("LooseAfter(%d) = %v; want %v", set, got, want)
		}
	}
}

func TestMoreThanTwentyFacesAreNoWindow(t *testing.T) {
	// A net of six by five nodes has 20 cells and the wall around.
	w := impl.Window{}
	for k := range 30 {
		w.Nodes = append(w.Nodes, impl.Node{X: k % 6, Y: k / 6})
		if k%6 > 0 {
			w.Leads = append(w.Leads, impl.Lead{From: k - 1, To: k})
		}
		if k >= 6 {
			w.Leads = append(w.Leads, impl.Lead{From: k - 6, To: k})
		}
	}
	for f := range 22 {
		if impl.AreJoined(w, 1<<f) || len(impl.LooseAfter(w, 1<<f)) != 0 {
			t.Errorf("face %d of more than 20 faces is joined", f)
		}
	}
	if impl.CountAssemblies(w) != -1 {
		t.Error("CountAssemblies with more than 20 faces is not -1")
	}
}

func TestOnlyWholeWindowsAreAssembled(t *testing.T) {
	for name, w := range notWholeWindows() {
		for _, order := range [][]int{nil, {}, {0}, {1}, {0, 1}, {0, 2}} {
			if impl.IsAssembly(w, order) {
				t.Errorf("%s: IsAssembly(%v) = true", name, order)
			}
		}
		for f := -1; f <= 3; f++ {
			if got, ok := impl.FirstAssembly(w, f); ok || len(got) != 0 {
				t.Errorf("%s: FirstAssembly(%d) = %v, %v", name, f, got, ok)
			}
		}
		for set := -1; set <= 16; set++ {
			if impl.AreJoined(w, set) || len(impl.LooseAfter(w, set)) != 0 {
				t.Errorf("%s: the set %d is joined", name, set)
			}
		}
		if got := impl.CountAssemblies(w); got != -1 {
			t.Errorf("%s: CountAssemblies = %d; want -1", name, got)
		}
	}
}

func TestFacesThatAreNotThereAreNotFirst(t *testing.T) {
	for name, w := range wholeWindows() {
		for _, f := range append(wrongIndices(len(facesByAngle(w))), wallAround(w)) {
			if got, ok := impl.FirstAssembly(w, f); ok || len(got) != 0 {
				t.Errorf("%s: FirstAssembly(%d) = %v, %v", name, f, got, ok)
			}
		}
	}
}

func TestAssembliesLeaveArgumentsAsTheyAre(t *testing.T) {
	for name, w := range wholeWindows() {
		roomy, isUntouched := roomyWindow(w)
		order, isOrderUntouched := roomyList(facesWithin(w))
		impl.IsAssembly(roomy, order)
		impl.CountAssemblies(roomy)
		for _, f := range facesWithin(w) {
			checkFresh(t, name+", chapter 17", func() [][]int {
				first, _ := impl.FirstAssembly(roomy, f)
				return [][]int{first, impl.LooseAfter(roomy, numberOf(order))}
			})
			impl.AreJoined(roomy, numberOf(order))
		}
		if !isUntouched() || !isOrderUntouched() {
			t.Errorf("%s: an argument is modified, or a result shares its memory", name)
		}
	}
}
