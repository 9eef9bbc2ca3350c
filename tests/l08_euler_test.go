package tests

import (
	"math/rand"
	"slices"
	"testing"

	"loop.example/g03303/impl"
)

// nodesWith returns the nodes that leads join with node k.
func nodesWith(w impl.Window, k int) []int {
	nodes := []int{}
	for i, reached := range reachedFrom(w, k) {
		if reached {
			nodes = append(nodes, i)
		}
	}
	return nodes
}

// partsOf takes away leads, one by one: each one that is in no circle joins two
// parts.
func partsOf(w impl.Window) int {
	parts := len(w.Nodes)
	for i, l := range w.Leads {
		before := impl.Window{Nodes: w.Nodes, Leads: w.Leads[:i]}
		if !reachedFrom(before, l.From)[l.To] {
			parts--
		}
	}
	return parts
}

func TestCountingByHand(t *testing.T) {
	whole, apart := wholeWindows(), apartWindows()
	cases := []struct {
		name                string
		w                   impl.Window
		parts, faces, panes int
	}{
		{"the sample", impl.SampleWindow(), 1, 5, 4},
		{"the greatest window", fullWindow(), 1, 10, 9},
		{"one lead", whole["one lead"], 1, 1, 0},
		{"a path", whole["path"], 1, 1, 0},
		{"a star", whole["sun"], 1, 1, 0},
		{"one pane", whole["triangle"], 1, 2, 1},
		{"a loose lead", whole["inner spike"], 1, 2, 1},
		{"two panes at one node", whole["bow tie"], 1, 3, 2},
		{"one node", apart["one node"], 1, 1, 0},
		{"three nodes without leads", apart["no leads"], 3, 1, 0},
		{"the greatest number of nodes without leads", apart["most nodes"], 12, 1, 0},
		{"a pane and a node", apart["first node alone"], 2, 2, 1},
		{"a pane with a node in it", apart["node in a pane"], 2, 2, 1},
		{"two leads apart", apart["two leads"], 2, 1, 0},
		{"two panes apart", apart["side by side"], 2, 3, 2},
		{"a pane in another one", apart["one in another"], 2, 3, 2},
		{"three leads apart", apart["three parts"], 3, 1, 0},
		{"a pane and two nodes", apart["pane and two nodes"], 3, 2, 1},
	}
	for _, c := range cases {
		if got := impl.CountParts(c.w); got != c.parts {
			t.Errorf("%s: CountParts = %d; want %d", c.name, got, c.parts)
		}
		if got := impl.CountFaces(c.w); got != c.faces {
			t.Errorf("%s: CountFaces = %d; want %d", c.name, got, c.faces)
		}
		if got := impl.CountPanes(c.w); got != c.panes {
			t.Errorf("%s: CountPanes = %d; want %d", c.name, got, c.panes)
		}
		if got := impl.IsForest(c.w); got != (c.faces == 1) {
			t.Errorf("%s: IsForest = %v", c.name, got)
		}
	}
}

// checkCounts compares all that chapter 8 says of one valid window.
func checkCounts(t *testing.T, name string, w impl.Window) {
	t.Helper()
	parts := partsOf(w)
	if got := impl.CountParts(w); got != parts {
		t.Errorf("%s: CountParts = %d; want %d", name, got, parts)
	}
	faces := impl.CountFaces(w)
	if len(w.Nodes)+faces != len(w.Leads)+parts+1 {
		t.Errorf("%s: CountFaces = %d with %d nodes, %d leads and %d parts", name, faces, len(w.Nodes), len(w.Leads), parts)
	}
	if got := impl.CountPanes(w); got != faces-1 {
		t.Errorf("%s: CountPanes = %d; want %d", name, got, faces-1)
	}
	// A forest is what has as many leads as its nodes need to have these parts.
	if got := impl.IsForest(w); got != (len(w.Leads) == len(w.Nodes)-parts) {
		t.Errorf("%s: IsForest = %v", name, got)
	}
	for k := range w.Nodes {
		if got := impl.PartOf(w, k); !slices.Equal(got, nodesWith(w, k)) {
			t.Errorf("%s: PartOf(%d) = %v; want %v", name, k, got, nodesWith(w, k))
		}
	}
}

func TestCountsOfAllWindows(t *testing.T) {
	for name, w := range byName(allWindows()) {
		checkCounts(t, name, w)
	}
	source := rand.New(rand.NewSource(8))
	for range 2000 {
		if w := randomWindow(source); isPlane(w) {
			checkCounts(t, "random", w)
		}
	}
}

func TestFacesOfWholeWindowsAreCounted(t *testing.T) {
	for name, w := range someWholeWindows(8, 200) {
		faces := facesByAngle(w)
		if got := impl.CountFaces(w); got != len(faces) {
			t.Errorf("%s: CountFaces = %d; want %d", name, got, len(faces))
		}
		want := []int{}
		for _, walk := range faces {
			want = append(want, len(walk))
		}
		if got := impl.FaceDegrees(w); !slices.Equal(got, want) {
			t.Errorf("%s: FaceDegrees = %v; want %v", name, got, want)
		}
	}
	if got := impl.FaceDegrees(wholeWindows()["pane in corner"]); !slices.Equal(got, []int{7, 4, 3}) {
		t.Errorf("FaceDegrees = %v; want [7 4 3]", got)
	}
}

func TestFaceDegreesAskForAWholeWindow(t *testing.T) {
	for name, w := range notWholeWindows() {
		if got := impl.FaceDegrees(w); len(got) != 0 {
			t.Errorf("%s: FaceDegrees = %v; want nil", name, got)
		}
	}
}

func TestInvalidWindowsCountNothing(t *testing.T) {
	for name, w := range invalidWindows() {
		if parts, faces, panes := impl.CountParts(w), impl.CountFaces(w), impl.CountPanes(w); parts != 0 || faces != 0 || panes != 0 {
			t.Errorf("%s: %d parts, %d faces, %d panes; want 0", name, parts, faces, panes)
		}
		if impl.IsForest(w) {
			t.Errorf("%s: IsForest = true", name)
		}
		for k := -1; k <= 13; k++ {
			if got := impl.PartOf(w, k); len(got) != 0 {
				t.Errorf("%s: PartOf(%d) = %v; want nil", name, k, got)
			}
		}
	}
	for name, w := range allWindows() {
		for _, k := range wrongIndices(len(w.Nodes)) {
			if got := impl.PartOf(w, k); len(got) != 0 {
				t.Errorf("%s: PartOf(%d) = %v; want nil", name, k, got)
			}
		}
	}
}

func TestCountingLeavesWindowsAsTheyAre(t *testing.T) {
	for name, w := range allWindows() {
		roomy, isUntouched := roomyWindow(w)
		checkFresh(t, name+", FaceDegrees", func() [][]int { return [][]int{impl.FaceDegrees(roomy)} })
		for k := range w.Nodes {
			checkFresh(t, name+", PartOf", func() [][]int { return [][]int{impl.PartOf(roomy, k)} })
		}
		impl.CountParts(roomy)
		impl.CountFaces(roomy)
		impl.CountPanes(roomy)
		impl.IsForest(roomy)
		if !isUntouched() {
			t.Errorf("%s: the argument is modified, or a result shares its memory", name)
		}
	}
}
