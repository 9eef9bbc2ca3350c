package tests

import (
	"math/rand"
	"slices"
	"testing"

	"loop.example/g03303/impl"
)

// isInOneLine reports whether node k has just two leads, in opposite directions.
func isInOneLine(w impl.Window, k int) bool {
	darts := dartsByAngle(w, k)
	if len(darts) != 2 {
		return false
	}
	_, a := dartEnds(w, darts[0])
	_, b := dartEnds(w, darts[1])
	there, _ := stepTo(w.Nodes[k], w.Nodes[a])
	back, _ := stepTo(w.Nodes[b], w.Nodes[k])
	return there == back
}

// joinedByHand needs a node in one line.
func joinedByHand(w impl.Window, k int) impl.Window {
	at, ends := []int{}, []int{}
	for i, l := range w.Leads {
		if l.From == k || l.To == k {
			at = append(at, i)
			ends = append(ends, l.From+l.To-k)
		}
	}
	joined := withoutLead(w, at[1])
	joined.Leads[at[0]] = impl.Lead{From: min(ends[0], ends[1]), To: max(ends[0], ends[1])}
	return nodeTaken(joined, k)
}

func straightByHand(w impl.Window) []int {
	straight := []int{}
	for k := range w.Nodes {
		if isInOneLine(w, k) {
			straight = append(straight, k)
		}
	}
	return straight
}

func simplifiedByHand(w impl.Window) impl.Window {
	straight := straightByHand(w)
	if len(straight) == 0 {
		return w
	}
	return simplifiedByHand(joinedByHand(w, straight[0]))
}

func TestJoinLeadsByHand(t *testing.T) {
	whole := wholeWindows()
	cases := []struct {
		name string
		w    impl.Window
		k    int
		want impl.Window
	}{
		{"a straight edge", whole["straight edge"], 1, drawn([]int{0, 0, 8, 0, 8, 8, 0, 8}, 0, 1, 1, 2, 2, 3, 0, 3)},
		{"a straight border", whole["straight line"], 6, drawn([]int{0, 0, 4, 0, 8, 0, 8, 4, 4, 4, 0, 4}, 1, 4, 0, 1, 1, 2, 2, 3, 3, 4, 4, 5, 0, 5)},
		{"the first node", drawn([]int{4, 0, 8, 0, 0, 0}, 0, 2, 0, 1), 0, drawn([]int{8, 0, 0, 0}, 0, 1)},
		{"upwards", drawn([]int{5, 1, 5, 9, 5, 4}, 1, 2, 0, 2), 2, drawn([]int{5, 1, 5, 9}, 0, 1)},
		{"parts of different lengths", drawn([]int{0, 0, 2, 1, 20, 10}, 0, 1, 1, 2), 1, drawn([]int{0, 0, 20, 10}, 0, 1)},
		{"another lead between", drawn([]int{0, 0, 4, 0, 8, 0, 0, 8}, 0, 1, 0, 3, 1, 2), 1, drawn([]int{0, 0, 8, 0, 0, 8}, 0, 1, 0, 2)},
		{"a window that is not whole", drawn([]int{20, 20, 0, 0, 4, 0, 8, 0}, 2, 3, 1, 2), 2, drawn([]int{20, 20, 0, 0, 8, 0}, 1, 2)},
	}
	for _, c := range cases {
		if !impl.IsStraightNode(c.w, c.k) {
			t.Errorf("%s: IsStraightNode(%d) = false", c.name, c.k)
		}
		if got, ok := impl.JoinLeads(c.w, c.k); !ok || !sameWindow(got, c.want) {
			t.Errorf("%s: JoinLeads(%d) = %v, %v; want %v", c.name, c.k, got, ok, c.want)
		}
	}
}

func TestNodesThatAreNotStraight(t *testing.T) {
	whole := wholeWindows()
	cases := []struct {
		name string
		w    impl.Window
		k    int
	}{
		{"four leads", impl.SampleWindow(), 4},
		{"two leads with a corner", whole["triangle"], 0},
		{"two leads that nearly make a line", drawn([]int{0, 0, 10, 1, 20, 1}, 0, 1, 1, 2), 1},
		{"one lead", whole["one lead"], 0},
		{"three leads, two of them in one line", whole["two cells"], 1},
		{"no lead, between two nodes", drawn([]int{0, 0, 4, 0, 8, 0}), 1},
		{"one lead, between two nodes", drawn([]int{0, 0, 4, 0, 8, 0}, 0, 1), 1},
	}
	for _, c := range cases {
		if impl.IsStraightNode(c.w, c.k) {
			t.Errorf("%s: IsStraightNode(%d) = true", c.name, c.k)
		}
		if got, ok := impl.JoinLeads(c.w, c.k); ok || !sameWindow(got, c.w) {
			t.Errorf("%s: JoinLeads(%d) = %v, %v", c.name, c.k, got, ok)
		}
	}
}

func TestALeadThatIsThereCannotBeJoinedAgain(t *testing.T) {
	// The straight node would be on the common lead, so that no such window is valid.
	w := drawn([]int{0, 0, 4, 0, 8, 0}, 0, 1, 1, 2, 0, 2)
	if got, ok := impl.JoinLeads(w, 1); ok || !sameWindow(got, w) {
		t.Errorf("JoinLeads = %v, %v", got, ok)
	}
	if impl.IsStraightNode(w, 1) || len(impl.StraightNodes(w)) != 0 || !sameWindow(impl.Simplify(w), w) {
		t.Error("a window that is not valid has a straight node")
	}
}

func TestSimplifyByHand(t *testing.T) {
	whole := wholeWindows()
	cases := []struct {
		name    string
		w, want impl.Window
	}{
		{"several nodes in one line", whole["straight rows"], drawn([]int{0, 0, 8, 0, 8, 12, 4, 4}, 0, 1, 1, 2, 2, 3, 0, 3)},
		{"a line of leads", drawn([]int{0, 0, 2, 0, 5, 0, 9, 0}, 0, 1, 2, 3, 1, 2), drawn([]int{0, 0, 9, 0}, 0, 1)},
		{"nothing to join", impl.SampleWindow(), impl.SampleWindow()},
		{"one lead", whole["one lead"], whole["one lead"]},
		{"no leads", apartWindows()["no leads"], apartWindows()["no leads"]},
	}
	for _, c := range cases {
		if got := impl.Simplify(c.w); !sameWindow(got, c.want) {
			t.Errorf("%s: Simplify = %v; want %v", c.name, got, c.want)
		}
	}
	if got := impl.StraightNodes(whole["straight rows"]); !slices.Equal(got, []int{1, 2, 3, 5}) {
		t.Errorf("StraightNodes = %v", got)
	}
}

// checkStraight compares what chapter 12 says of joining for one valid window.
func checkStraight(t *testing.T, name string, w impl.Window) {
	t.Helper()
	if got := impl.StraightNodes(w); !slices.Equal(got, straightByHand(w)) {
		t.Errorf("%s: StraightNodes = %v; want %v", name, got, straightByHand(w))
	}
	for k := range w.Nodes {
		isStraight := isInOneLine(w, k)
		want := w
		if isStraight {
			want = joinedByHand(w, k)
		}
		if got := impl.IsStraightNode(w, k); got != isStraight {
			t.Errorf("%s: IsStraightNode(%d) = %v", name, k, got)
		}
		got, ok := impl.JoinLeads(w, k)
		if ok != isStraight || !sameWindow(got, want) {
			t.Errorf("%s: JoinLeads(%d) = %v, %v; want %v", name, k, got, ok, want)
		}
		if !isPlane(got) || impl.TotalArea(got) != impl.TotalArea(w) || impl.CountFaces(got) != impl.CountFaces(w) {
			t.Errorf("%s: JoinLeads(%d) changes an area", name, k)
		}
	}
	simple := impl.Simplify(w)
	if !sameWindow(simple, simplifiedByHand(w)) || len(impl.StraightNodes(simple)) != 0 {
		t.Errorf("%s: Simplify = %v; want %v", name, simple, simplifiedByHand(w))
	}
	if impl.TotalArea(simple) != impl.TotalArea(w) {
		t.Errorf("%s: Simplify changes the area", name)
	}
}

func TestJoiningLeadsChangesNoArea(t *testing.T) {
	for name, w := range byName(allWindows()) {
		checkStraight(t, name, w)
	}
	source := rand.New(rand.NewSource(12))
	straight := 0
	for range 500 {
		w := splitAtRandom(source, randomWhole(source))
		straight += len(straightByHand(w))
		checkStraight(t, "random", w)
	}
	if straight < 100 {
		t.Error("too few nodes of the random windows are straight:", straight)
	}
}

// splitAtRandom tries to put some nodes on leads.
func splitAtRandom(source *rand.Rand, w impl.Window) impl.Window {
	for range 20 {
		n := impl.Node{X: source.Intn(6), Y: source.Intn(6)}
		if k := source.Intn(len(w.Leads)); isPassed(w.Nodes[w.Leads[k].From], w.Nodes[w.Leads[k].To], n) {
			w = splitByHand(w, k, n)
		}
	}
	return w
}

// splitByHand ends lead k at a new last node and goes on from there.
func splitByHand(w impl.Window, k int, n impl.Node) impl.Window {
	split := cloneOf(w)
	split.Nodes = append(split.Nodes, n)
	split.Leads[k] = impl.Lead{From: w.Leads[k].From, To: len(w.Nodes)}
	split.Leads = append(split.Leads, impl.Lead{From: w.Leads[k].To, To: len(w.Nodes)})
	return split
}

// checkSplits puts every node of the board on every lead.
func checkSplits(t *testing.T, name string, w impl.Window) {
	t.Helper()
	for k, l := range w.Leads {
		for _, n := range gridOf(23, 1) {
			want := splitByHand(w, k, n)
			fits := isPassed(w.Nodes[l.From], w.Nodes[l.To], n) && isPlane(want)
			if !fits {
				want = w
			}
			got, ok := impl.SplitLead(w, k, n)
			if ok != fits || !sameWindow(got, want) {
				t.Errorf("%s: SplitLead(%d, %v) = %v, %v; want %v", name, k, n, got, ok, want)
			}
			if !ok {
				continue
			}
			back, ok := impl.JoinLeads(got, len(w.Nodes))
			if !impl.IsStraightNode(got, len(w.Nodes)) || !ok || !sameWindow(back, w) {
				t.Errorf("%s: SplitLead(%d, %v) and JoinLeads = %v, %v; want %v", name, k, n, back, ok, w)
			}
			if impl.TotalArea(got) != impl.TotalArea(w) {
				t.Errorf("%s: SplitLead(%d, %v) changes the area", name, k, n)
			}
		}
	}
}

func TestALeadThatIsSplitCanBeJoinedAgain(t *testing.T) {
	for name, w := range allWindows() {
		checkSplits(t, name, w)
	}
}

func TestSplitLeadByHand(t *testing.T) {
	line := drawn([]int{0, 0, 8, 4}, 0, 1)
	split := drawn([]int{0, 0, 8, 4, 4, 2}, 0, 2, 1, 2)
	if got, ok := impl.SplitLead(line, 0, impl.Node{X: 4, Y: 2}); !ok || !sameWindow(got, split) {
		t.Errorf("SplitLead = %v, %v; want %v", got, ok, split)
	}
	for _, n := range append(nodesNotOnBoard, impl.Node{}, impl.Node{X: 8, Y: 4}, impl.Node{X: 4, Y: 3}, impl.Node{X: 5, Y: 2}, impl.Node{X: 10, Y: 5}, impl.Node{X: 3, Y: 2}) {
		if got, ok := impl.SplitLead(line, 0, n); ok || !sameWindow(got, line) {
			t.Errorf("SplitLead(%v) = %v, %v", n, got, ok)
		}
	}
	for _, k := range wrongIndices(1) {
		if got, ok := impl.SplitLead(line, k, impl.Node{X: 4, Y: 2}); ok || !sameWindow(got, line) {
			t.Errorf("SplitLead of lead %d = %v, %v", k, got, ok)
		}
	}
}

func TestSplitLeadAtTheLimits(t *testing.T) {
	middle := impl.Node{X: 10, Y: 1}
	almost := drawn([]int{0, 1, 20, 1}, 0, 1)
	for x := range 9 {
		almost.Nodes = append(almost.Nodes, impl.Node{X: 2 * x, Y: 20})
	}
	got, ok := impl.SplitLead(almost, 0, middle)
	if !ok || len(got.Nodes) != impl.MaxNodes {
		t.Fatalf("SplitLead rejects node number MaxNodes: %v, %v", got, ok)
	}
	if back, ok := impl.JoinLeads(got, 11); !ok || !sameWindow(back, almost) {
		t.Errorf("JoinLeads with MaxNodes = %v, %v", back, ok)
	}
	if again, ok := impl.SplitLead(got, 0, impl.Node{X: 5, Y: 1}); ok || !sameWindow(again, got) {
		t.Errorf("SplitLead accepts more than MaxNodes nodes: %v, %v", again, ok)
	}
	full := fullOfLeads()
	if !impl.WindowOk(full) || len(full.Leads) != impl.MaxLeads {
		t.Fatal("the window full of leads is not one")
	}
	last := full.Leads[19]
	place := impl.Node{X: (full.Nodes[last.From].X + full.Nodes[last.To].X) / 2, Y: (full.Nodes[last.From].Y + full.Nodes[last.To].Y) / 2}
	if again, ok := impl.SplitLead(full, 19, place); ok || !sameWindow(again, full) {
		t.Errorf("SplitLead accepts more than MaxLeads leads: %v, %v", again, ok)
	}
	// With one lead less, nothing is against it.
	fewer := withoutLead(full, 0)
	if again, ok := impl.SplitLead(fewer, 18, place); !ok || len(again.Leads) != impl.MaxLeads {
		t.Errorf("SplitLead rejects lead number MaxLeads: %v, %v", again, ok)
	}
}

// fullOfLeads has MaxLeads leads, but fewer nodes than MaxNodes.
func fullOfLeads() impl.Window {
	w := impl.Window{}
	for _, n := range gridOf(3, 8) {
		w.Nodes = append(w.Nodes, n)
	}
	w.Nodes = append(w.Nodes, impl.Node{X: 20, Y: 20})
	leads := allLeads(w.Nodes)
	slices.SortStableFunc(leads, func(l, m impl.Lead) int {
		return impl.LengthSquare(w.Nodes[l.From], w.Nodes[l.To]) - impl.LengthSquare(w.Nodes[m.From], w.Nodes[m.To])
	})
	for _, l := range leads {
		if longer := withLead(w, l.From, l.To); len(w.Leads) < impl.MaxLeads && isPlane(longer) {
			w = longer
		}
	}
	return w
}

func TestStraightNodesThatAreNotThere(t *testing.T) {
	for name, w := range allWindows() {
		for _, k := range wrongIndices(len(w.Nodes)) {
			got, ok := impl.JoinLeads(w, k)
			if impl.IsStraightNode(w, k) || ok || !sameWindow(got, w) {
				t.Errorf("%s: JoinLeads(%d) = %v, %v", name, k, got, ok)
			}
		}
		for _, k := range wrongIndices(len(w.Leads)) {
			if got, ok := impl.SplitLead(w, k, impl.Node{X: 4}); ok || !sameWindow(got, w) {
				t.Errorf("%s: SplitLead(%d) = %v, %v", name, k, got, ok)
			}
		}
	}
	windows := invalidWindows()
	windows["a straight node beside equal nodes"] = drawn([]int{0, 0, 4, 0, 8, 0, 20, 20, 20, 20}, 0, 1, 1, 2)
	windows["a lead beside a node off the board"] = drawn([]int{0, 0, 8, 0, 21, 0}, 0, 1)
	for name, w := range windows {
		for k := -1; k <= 13; k++ {
			if got, ok := impl.JoinLeads(w, k); ok || !sameWindow(got, w) || impl.IsStraightNode(w, k) {
				t.Errorf("%s: JoinLeads(%d) = %v, %v", name, k, got, ok)
			}
			if got, ok := impl.SplitLead(w, k, impl.Node{X: 4}); ok || !sameWindow(got, w) {
				t.Errorf("%s: SplitLead(%d) = %v, %v", name, k, got, ok)
			}
		}
		if got := impl.StraightNodes(w); len(got) != 0 || !sameWindow(impl.Simplify(w), w) {
			t.Errorf("%s: StraightNodes = %v", name, got)
		}
	}
}

func TestStraightLeadsLeaveWindowsAsTheyAre(t *testing.T) {
	windows := allWindows()
	for name, w := range invalidWindows() {
		windows[name] = w
	}
	for name, w := range windows {
		roomy, isUntouched := roomyWindow(w)
		checkFresh(t, name+", StraightNodes", func() [][]int { return [][]int{impl.StraightNodes(roomy)} })
		checkFreshWindow(t, name+", Simplify", func() impl.Window { return impl.Simplify(roomy) })
		for k := -1; k <= min(len(w.Nodes), 13); k++ {
			checkFreshWindow(t, name+", JoinLeads", func() impl.Window {
				got, _ := impl.JoinLeads(roomy, k)
				return got
			})
			for _, n := range []impl.Node{{X: 4}, {X: 4, Y: 4}, {X: 10, Y: 10}, {X: 21}} {
				checkFreshWindow(t, name+", SplitLead", func() impl.Window {
					got, _ := impl.SplitLead(roomy, k, n)
					return got
				})
			}
		}
		if !isUntouched() {
			t.Errorf("%s: the argument is modified, or a result shares its memory", name)
		}
	}
}
