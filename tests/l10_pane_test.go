package tests

import (
	"slices"
	"testing"

	"loop.example/g03303/impl"
)

// nodesAlong returns the nodes at which the darts of a walk begin.
func nodesAlong(w impl.Window, walk []int) []int {
	nodes := []int{}
	for _, d := range walk {
		from, _ := dartEnds(w, d)
		nodes = append(nodes, from)
	}
	return nodes
}

// isOnePiece reports whether face f is not the wall and comes once to each node.
func isOnePiece(w impl.Window, f int) bool {
	nodes := nodesAlong(w, facesByAngle(w)[f])
	slices.Sort(nodes)
	return f != wallAround(w) && len(slices.Compact(slices.Clone(nodes))) == len(nodes)
}

// turnsAlong tells for each node of a face on which side the way goes on: 1
// for the left, -1 for the right, 0 for straight on.
func turnsAlong(w impl.Window, f int) []int {
	turns := []int{}
	nodes := nodesAlong(w, facesByAngle(w)[f])
	for i := range nodes {
		a, b, c := w.Nodes[nodes[i]], w.Nodes[nodes[(i+1)%len(nodes)]], w.Nodes[nodes[(i+2)%len(nodes)]]
		in, _ := stepTo(a, b)
		out, _ := stepTo(b, c)
		switch cross := in.X*out.Y - in.Y*out.X; {
		case cross > 0:
			turns = append(turns, 1)
		case cross < 0:
			turns = append(turns, -1)
		default:
			turns = append(turns, 0)
		}
	}
	return turns
}

func TestPanesByHand(t *testing.T) {
	cases := []struct {
		window  string
		panes   []int
		convex  []int
		corners []int // of the panes
		widest  int
	}{
		{"sample", []int{0, 2, 3, 4}, []int{0, 2, 3, 4}, []int{3, 3, 3, 3}, 0},
		{"one lead", nil, nil, nil, -1},
		{"path", nil, nil, nil, -1},
		{"sun", nil, nil, nil, -1},
		{"triangle", []int{0}, []int{0}, []int{3}, 0},
		{"backwards", []int{1}, []int{1}, []int{3}, 1},
		{"straight edge", []int{0}, []int{0}, []int{4}, 0},
		{"straight rows", []int{0}, nil, []int{4}, 0},
		{"arrow", []int{0}, nil, []int{4}, 0},
		{"bent border", []int{0, 2}, []int{0}, []int{5, 5}, 0},
		{"straight line", []int{0, 1}, []int{0, 1}, []int{4, 4}, 0},
		{"inner spike", nil, nil, nil, -1},
		{"outer spike", []int{0}, []int{0}, []int{3}, 0},
		{"bridge", []int{0, 2}, []int{0, 2}, []int{3, 3}, 0},
		{"bow tie", []int{1, 2}, []int{1, 2}, []int{3, 3}, 1},
		{"hanging pane", []int{2}, []int{2}, []int{3}, 2},
		{"pane in corner", []int{2}, []int{2}, []int{3}, 2},
	}
	for _, c := range cases {
		w := wholeWindows()[c.window]
		if got := impl.PanesOf(w); !slices.Equal(got, c.panes) {
			t.Errorf("%s: PanesOf = %v; want %v", c.window, got, c.panes)
		}
		for i, f := range c.panes {
			if got := impl.CornersOf(w, f); got != c.corners[i] {
				t.Errorf("%s: CornersOf(%d) = %d; want %d", c.window, f, got, c.corners[i])
			}
		}
		for f := range facesByAngle(w) {
			if got := impl.IsConvexPane(w, f); got != slices.Contains(c.convex, f) {
				t.Errorf("%s: IsConvexPane(%d) = %v", c.window, f, got)
			}
		}
		if got := impl.WidestPane(w); got != c.widest {
			t.Errorf("%s: WidestPane = %d; want %d", c.window, got, c.widest)
		}
	}
}

func TestBordersAndBoxesByHand(t *testing.T) {
	cases := []struct {
		window    string
		f         int
		nodes     []int
		low, high impl.Node
	}{
		{"sample", 0, []int{0, 1, 4}, impl.Node{}, impl.Node{X: 8, Y: 4}},
		{"sample", 1, []int{1, 0, 3, 2}, impl.Node{}, impl.Node{X: 8, Y: 8}},
		{"sample", 3, []int{2, 3, 4}, impl.Node{Y: 4}, impl.Node{X: 8, Y: 8}},
		{"one lead", 0, []int{0, 1}, impl.Node{}, impl.Node{X: 20, Y: 20}},
		{"steep lead", 0, []int{0, 1}, impl.Node{X: 6}, impl.Node{X: 7, Y: 20}},
		{"inner spike", 0, []int{0, 1, 2, 0, 3}, impl.Node{}, impl.Node{X: 12, Y: 12}},
		{"outer spike", 1, []int{1, 0, 2, 1, 3}, impl.Node{}, impl.Node{X: 16, Y: 12}},
		{"pane in corner", 0, []int{0, 1, 2, 3, 0, 5, 4}, impl.Node{}, impl.Node{X: 16, Y: 16}},
		{"hanging pane", 2, []int{4, 5, 6}, impl.Node{X: 6, Y: 6}, impl.Node{X: 10, Y: 10}},
		{"bridge", 2, []int{3, 4, 5}, impl.Node{X: 10}, impl.Node{X: 14, Y: 4}},
	}
	for _, c := range cases {
		w := wholeWindows()[c.window]
		if got := impl.PaneNodes(w, c.f); !slices.Equal(got, c.nodes) {
			t.Errorf("%s: PaneNodes(%d) = %v; want %v", c.window, c.f, got, c.nodes)
		}
		if low, high := impl.PaneBox(w, c.f); low != c.low || high != c.high {
			t.Errorf("%s: PaneBox(%d) = %v, %v; want %v, %v", c.window, c.f, low, high, c.low, c.high)
		}
	}
}

func TestWidestPaneIsTheFirstOfTheGreatest(t *testing.T) {
	// Three panes from left to right, of which the second and the third one are
	// equal, and greater than the first one.
	w := drawn([]int{0, 0, 2, 0, 6, 0, 10, 0, 10, 4, 6, 4, 2, 4, 0, 4}, 0, 1, 1, 2, 2, 3, 3, 4, 4, 5, 5, 6, 6, 7, 0, 7, 1, 6, 2, 5)
	if got := impl.PanesOf(w); !slices.Equal(got, []int{0, 2, 3}) {
		t.Fatalf("PanesOf = %v", got)
	}
	if got := impl.WidestPane(w); got != 2 {
		t.Errorf("WidestPane = %d; want 2", got)
	}
	// The wide face around the hanging pane is not a pane.
	if got := impl.WidestPane(wholeWindows()["hanging pane"]); got != 2 {
		t.Errorf("WidestPane = %d; want 2", got)
	}
}

// boxAround sorts the coordinates.
func boxAround(w impl.Window, nodes []int) (impl.Node, impl.Node) {
	xs, ys := []int{}, []int{}
	for _, k := range nodes {
		xs, ys = append(xs, w.Nodes[k].X), append(ys, w.Nodes[k].Y)
	}
	slices.Sort(xs)
	slices.Sort(ys)
	return impl.Node{X: xs[0], Y: ys[0]}, impl.Node{X: xs[len(xs)-1], Y: ys[len(ys)-1]}
}

// checkPane compares all that chapter 10 says of one face.
func checkPane(t *testing.T, name string, w impl.Window, f int) {
	t.Helper()
	nodes := nodesAlong(w, facesByAngle(w)[f])
	if got := impl.PaneNodes(w, f); !slices.Equal(got, nodes) {
		t.Errorf("%s: PaneNodes(%d) = %v; want %v", name, f, got, nodes)
	}
	isPane, turns := isOnePiece(w, f), turnsAlong(w, f)
	if got := impl.IsPane(w, f); got != isPane {
		t.Errorf("%s: IsPane(%d) = %v", name, f, got)
	}
	isConvex := isPane && !slices.Contains(turns, -1)
	if got := impl.IsConvexPane(w, f); got != isConvex {
		t.Errorf("%s: IsConvexPane(%d) = %v", name, f, got)
	}
	corners := -1
	if isPane {
		corners = len(slices.DeleteFunc(turns, func(turn int) bool { return turn == 0 }))
	}
	if got := impl.CornersOf(w, f); got != corners {
		t.Errorf("%s: CornersOf(%d) = %d; want %d", name, f, got, corners)
	}
	low, high := boxAround(w, nodes)
	if gotLow, gotHigh := impl.PaneBox(w, f); gotLow != low || gotHigh != high {
		t.Errorf("%s: PaneBox(%d) = %v, %v; want %v, %v", name, f, gotLow, gotHigh, low, high)
	}
	if impl.AreaOf(w, f) > 2*(high.X-low.X)*(high.Y-low.Y) {
		t.Errorf("%s: face %d is greater than its box", name, f)
	}
	if isConvex && corners < 3 {
		t.Errorf("%s: the convex pane %d has %d corners", name, f, corners)
	}
}

func TestPanesAndTheirBoxes(t *testing.T) {
	for name, w := range someWholeWindows(10, 200) {
		panes, widest := []int{}, -1
		for f, walk := range facesByAngle(w) {
			checkPane(t, name, w, f)
			if !isOnePiece(w, f) {
				continue
			}
			panes = append(panes, f)
			if widest < 0 || areaByStrips(w, walk) > areaByStrips(w, facesByAngle(w)[widest]) {
				widest = f
			}
		}
		if got := impl.PanesOf(w); !slices.Equal(got, panes) {
			t.Errorf("%s: PanesOf = %v; want %v", name, got, panes)
		}
		if got := impl.WidestPane(w); got != widest {
			t.Errorf("%s: WidestPane = %d; want %d", name, got, widest)
		}
	}
}

func checkNoPane(t *testing.T, name string, w impl.Window, f int) {
	t.Helper()
	if got := impl.PaneNodes(w, f); len(got) != 0 {
		t.Errorf("%s: PaneNodes(%d) = %v; want nil", name, f, got)
	}
	if impl.IsPane(w, f) || impl.IsConvexPane(w, f) {
		t.Errorf("%s: face %d is a pane", name, f)
	}
	if got := impl.CornersOf(w, f); got != -1 {
		t.Errorf("%s: CornersOf(%d) = %d; want -1", name, f, got)
	}
	if low, high := impl.PaneBox(w, f); low != (impl.Node{}) || high != (impl.Node{}) {
		t.Errorf("%s: PaneBox(%d) = %v, %v; want zero nodes", name, f, low, high)
	}
}

func TestPanesThatAreNotThere(t *testing.T) {
	for name, w := range wholeWindows() {
		for _, f := range wrongIndices(len(facesByAngle(w))) {
			checkNoPane(t, name, w, f)
		}
	}
	for name, w := range notWholeWindows() {
		for f := -1; f <= 12; f++ {
			checkNoPane(t, name, w, f)
		}
		if got := impl.PanesOf(w); len(got) != 0 {
			t.Errorf("%s: PanesOf = %v; want nil", name, got)
		}
		if got := impl.WidestPane(w); got != -1 {
			t.Errorf("%s: WidestPane = %d; want -1", name, got)
		}
	}
}

func TestPanesLeaveWindowsAsTheyAre(t *testing.T) {
	for name, w := range wholeWindows() {
		roomy, isUntouched := roomyWindow(w)
		for f := range facesByAngle(w) {
			checkFresh(t, name+", chapter 10", func() [][]int {
				return [][]int{impl.PaneNodes(roomy, f), impl.PanesOf(roomy)}
			})
			impl.IsPane(roomy, f)
			impl.IsConvexPane(roomy, f)
			impl.CornersOf(roomy, f)
			impl.PaneBox(roomy, f)
		}
		impl.WidestPane(roomy)
		if !isUntouched() {
			t.Errorf("%s: the argument is modified, or a result shares its memory", name)
		}
	}
}
