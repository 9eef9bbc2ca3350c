package tests

import (
	"math/bits"
	"math/rand"
	"slices"
	"testing"

	"loop.example/g03303/impl"
)

// listOf reads a set of leads from the bits of a number.
func listOf(number int) []int {
	list := []int{}
	for k := range 64 {
		if number>>k&1 == 1 {
			list = append(list, k)
		}
	}
	return list
}

// isInOrder reports whether list has leads of the window, each one greater than
// the one before.
func isInOrder(w impl.Window, list []int) bool {
	last := -1
	for _, k := range list {
		if k <= last || k >= len(w.Leads) {
			return false
		}
		last = k
	}
	return true
}

// spansByReaching needs a list in order.
func spansByReaching(w impl.Window, list []int) bool {
	tree := impl.Window{Nodes: w.Nodes}
	for _, k := range list {
		tree.Leads = append(tree.Leads, w.Leads[k])
	}
	return len(list) == len(w.Nodes)-1 && !slices.Contains(reachedFrom(tree, 0), false)
}

// spansFaces treats the faces as if they were nodes.
func spansFaces(sides [][2]int, faces int, list []int) bool {
	graph := impl.Window{Nodes: make([]impl.Node, faces)}
	for _, k := range list {
		graph.Leads = append(graph.Leads, impl.Lead{From: sides[k][0], To: sides[k][1]})
	}
	return len(list) == faces-1 && !slices.Contains(reachedFrom(graph, 0), false)
}

func TestTreesByHand(t *testing.T) {
	cases := []struct {
		window      string
		first, rest []int
		count       int
	}{
		{"sample", []int{0, 1, 2, 4}, []int{3, 5, 6, 7}, 45},
		{"shuffled", []int{0, 1, 2, 3}, []int{4, 5, 6, 7}, 45},
		{"one lead", []int{0}, nil, 1},
		{"path", []int{0, 1, 2}, nil, 1},
		{"sun", []int{0, 1, 2, 3, 4, 5, 6, 7}, nil, 1},
		{"triangle", []int{0, 1}, []int{2}, 3},
		{"straight edge", []int{0, 1, 2, 3}, []int{4}, 5},
		{"inner spike", []int{0, 1, 3}, []int{2}, 3},
		{"outer spike", []int{0, 1, 3}, []int{2}, 3},
		{"bridge", []int{0, 1, 3, 4, 5}, []int{2, 6}, 9},
		{"bow tie", []int{0, 1, 3, 4}, []int{2, 5}, 9},
		{"hanging pane", []int{0, 1, 2, 3, 5, 6}, []int{4, 7}, 12},
		{"two cells", []int{0, 1, 2, 3, 4}, []int{5, 6}, 15},
		{"bent border", []int{0, 1, 2, 3, 4, 6}, []int{5, 7}, 21},
		{"four in all", []int{0, 1, 3}, []int{2, 4, 5}, 16},
		{"wheel", []int{0, 1, 2, 3, 5}, []int{4, 6, 7, 8, 9}, 121},
	}
	for _, c := range cases {
		w := wholeWindows()[c.window]
		if got := impl.FirstSpanning(w); !slices.Equal(got, c.first) {
			t.Errorf("%s: FirstSpanning = %v; want %v", c.window, got, c.first)
		}
		if got := impl.DualSpanning(w, c.first); !slices.Equal(got, c.rest) {
			t.Errorf("%s: DualSpanning = %v; want %v", c.window, got, c.rest)
		}
		if !impl.IsSpanning(w, c.first) || !impl.IsDualTree(w, c.rest) {
			t.Errorf("%s: IsSpanning = %v and IsDualTree = %v", c.window, impl.IsSpanning(w, c.first), impl.IsDualTree(w, c.rest))
		}
		if nodes, faces := impl.CountSpanning(w), impl.CountDualTrees(w); nodes != c.count || faces != c.count {
			t.Errorf("%s: CountSpanning = %d and CountDualTrees = %d; want %d", c.window, nodes, faces, c.count)
		}
	}
}

// checkTrees goes through all sets of leads.
func checkTrees(t *testing.T, name string, w impl.Window) {
	t.Helper()
	sides, faces := sidesByAngle(w), len(facesByAngle(w))
	spanning, dual := 0, 0
	first := []int{}
	for number := range 1 << len(w.Leads) {
		list := listOf(number)
		isTree, isDual := spansByReaching(w, list), spansFaces(sides, faces, list)
		if got := impl.IsSpanning(w, list); got != isTree {
			t.Errorf("%s: IsSpanning(%v) = %v", name, list, got)
		}
		if got := impl.IsDualTree(w, list); got != isDual {
			t.Errorf("%s: IsDualTree(%v) = %v", name, list, got)
		}
		rest := []int{}
		if isTree {
			spanning++
			rest = listOf(1<<len(w.Leads) - 1 - number)
			if len(first) == 0 || slices.Compare(list, first) < 0 {
				first = list
			}
			if !impl.IsDualTree(w, rest) {
				t.Errorf("%s: the leads that are not in %v are no tree of faces", name, list)
			}
		}
		if isDual {
			dual++
		}
		if got := impl.DualSpanning(w, list); !slices.Equal(got, rest) {
			t.Errorf("%s: DualSpanning(%v) = %v; want %v", name, list, got, rest)
		}
	}
	if got := impl.FirstSpanning(w); !slices.Equal(got, first) {
		t.Errorf("%s: FirstSpanning = %v; want %v", name, got, first)
	}
	if got := impl.CountSpanning(w); got != spanning {
		t.Errorf("%s: CountSpanning = %d; want %d", name, got, spanning)
	}
	if got := impl.CountDualTrees(w); got != dual || dual != spanning {
		t.Errorf("%s: CountDualTrees = %d; want %d", name, got, dual)
	}
}

func TestLeadsThatAreNotInATreeAreATreeOfFaces(t *testing.T) {
	checked := 0
	for name, w := range someWholeWindows(16, 150) {
		if len(w.Leads) <= 9 {
			checked++
			checkTrees(t, name, w)
		}
	}
	if checked < 80 {
		t.Error("too few windows are small enough:", checked)
	}
}

func TestTreesOfGreatWindows(t *testing.T) {
	for name, w := range map[string]impl.Window{"full": fullWindow(), "full of leads": fullOfLeads()} {
		sides, faces := sidesByAngle(w), len(facesByAngle(w))
		spanning, dual := 0, 0
		for number := range 1 << len(w.Leads) {
			count := bits.OnesCount(uint(number))
			if count == len(w.Nodes)-1 && spansByReaching(w, listOf(number)) {
				spanning++
			}
			if count == faces-1 && spansFaces(sides, faces, listOf(number)) {
				dual++
			}
		}
		if got := impl.CountSpanning(w); got != spanning {
			t.Errorf("%s: CountSpanning = %d; want %d", name, got, spanning)
		}
		if got := impl.CountDualTrees(w); got != dual || got != spanning {
			t.Errorf("%s: CountDualTrees = %d; want %d", name, got, dual)
		}
	}
}

// checkLists compares lists that may be in any order or repeat leads.
func checkLists(t *testing.T, name string, w impl.Window, lists ...[]int) {
	t.Helper()
	sides, faces := sidesByAngle(w), len(facesByAngle(w))
	for _, list := range lists {
		isTree := isInOrder(w, list) && spansByReaching(w, list)
		if got := impl.IsSpanning(w, list); got != isTree {
			t.Errorf("%s: IsSpanning(%v) = %v", name, list, got)
		}
		if got := impl.DualSpanning(w, list); !isTree && len(got) != 0 {
			t.Errorf("%s: DualSpanning(%v) = %v; want nil", name, list, got)
		}
		isDual := isInOrder(w, list) && spansFaces(sides, faces, list)
		if got := impl.IsDualTree(w, list); got != isDual {
			t.Errorf("%s: IsDualTree(%v) = %v", name, list, got)
		}
	}
}

func TestListsThatAreNoTrees(t *testing.T) {
	sample := impl.SampleWindow()
	checkLists(t, "sample", sample,
		nil, []int{}, []int{0}, []int{0, 1, 2}, []int{0, 1, 2, 4, 5}, []int{0, 1, 2, 3, 4, 5, 6, 7},
		[]int{0, 1, 2, 3}, []int{4, 5, 6, 7}, []int{0, 1, 4, 5}, []int{3, 5, 6, 7},
		[]int{0, 0, 2, 4}, []int{0, 1, 1, 4}, []int{0, 1, 4, 4}, []int{1, 0, 2, 4}, []int{0, 1, 4, 2}, []int{4, 2, 1, 0},
		[]int{0, 1, 2, 8}, []int{-1, 1, 2, 4}, []int{leastInt, 0, 1, 2}, []int{0, 1, 2, greatestInt}, slices.Repeat([]int{1}, 1000))
	for name, w := range wholeWindows() {
		tree := impl.FirstSpanning(w)
		backwards := slices.Clone(tree)
		slices.Reverse(backwards)
		longer := append(slices.Clone(tree), len(w.Leads))
		repeated := append(slices.Clone(tree[1:]), tree[len(tree)-1])
		checkLists(t, name, w, tree, backwards, longer, repeated, tree[1:], nil)
		rest := impl.DualSpanning(w, tree)
		if len(rest) > 1 {
			backwards, repeated := slices.Clone(rest), append(slices.Clone(rest[1:]), rest[len(rest)-1])
			slices.Reverse(backwards)
			checkLists(t, name, w, rest, backwards, repeated, rest[1:], append(slices.Clone(rest), len(w.Leads)))
		}
	}
}

func TestRandomListsOfLeads(t *testing.T) {
	source := rand.New(rand.NewSource(160))
	for name, w := range byName(wholeWindows()) {
		for range 300 {
			list := source.Perm(len(w.Leads))[:source.Intn(len(w.Leads)+1)]
			if source.Intn(4) > 0 {
				slices.Sort(list)
			}
			if len(list) > 0 && source.Intn(8) == 0 {
				list[source.Intn(len(list))] = source.Intn(len(w.Leads)+3) - 1
			}
			checkLists(t, name, w, list)
		}
	}
}

func TestLooseLeadsAreInAllTrees(t *testing.T) {
	for name, k := range map[string]int{"inner spike": 3, "outer spike": 3, "bridge": 3, "hanging pane": 0, "one lead": 0} {
		w := wholeWindows()[name]
		for number := range 1 << len(w.Leads) {
			list := listOf(number)
			if impl.IsSpanning(w, list) && !slices.Contains(list, k) {
				t.Errorf("%s: the tree %v is without the loose lead %d", name, list, k)
			}
			if impl.IsDualTree(w, list) && slices.Contains(list, k) {
				t.Errorf("%s: the tree of faces %v has the loose lead %d", name, list, k)
			}
		}
	}
	// A window that is a tree has one face, which the empty list spans.
	for _, name := range []string{"one lead", "path", "sun"} {
		w := wholeWindows()[name]
		if !impl.IsDualTree(w, nil) || !impl.IsDualTree(w, []int{}) || impl.IsDualTree(w, []int{0}) || impl.IsSpanning(w, nil) {
			t.Errorf("%s: the empty list is not the tree of faces", name)
		}
	}
}

func TestOnlyWholeWindowsHaveTrees(t *testing.T) {
	for name, w := range notWholeWindows() {
		for number := range 64 {
			list := listOf(number)
			if impl.IsSpanning(w, list) || impl.IsDualTree(w, list) {
				t.Errorf("%s: %v is a tree", name, list)
			}
			if got := impl.DualSpanning(w, list); len(got) != 0 {
				t.Errorf("%s: DualSpanning(%v) = %v; want nil", name, list, got)
			}
		}
		if got := impl.FirstSpanning(w); len(got) != 0 {
			t.Errorf("%s: FirstSpanning = %v; want nil", name, got)
		}
		if nodes, faces := impl.CountSpanning(w), impl.CountDualTrees(w); nodes != 0 || faces != 0 {
			t.Errorf("%s: CountSpanning = %d and CountDualTrees = %d; want 0", name, nodes, faces)
		}
	}
}

func TestTreesLeaveArgumentsAsTheyAre(t *testing.T) {
	for name, w := range wholeWindows() {
		roomy, isUntouched := roomyWindow(w)
		tree, isTreeUntouched := roomyList(impl.FirstSpanning(w))
		rest, isRestUntouched := roomyList(impl.DualSpanning(w, tree))
		checkFresh(t, name+", chapter 16", func() [][]int {
			return [][]int{impl.FirstSpanning(roomy), impl.DualSpanning(roomy, tree)}
		})
		impl.IsSpanning(roomy, tree)
		impl.IsDualTree(roomy, rest)
		impl.CountSpanning(roomy)
		impl.CountDualTrees(roomy)
		if !isUntouched() || !isTreeUntouched() || !isRestUntouched() {
			t.Errorf("%s: an argument is modified, or a result shares its memory", name)
		}
	}
}
