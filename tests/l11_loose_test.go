package tests

import (
	"slices"
	"testing"

	"loop.example/g03303/impl"
)

// withoutLead returns the window without lead k.
func withoutLead(w impl.Window, k int) impl.Window {
	return impl.Window{Nodes: w.Nodes, Leads: slices.Delete(slices.Clone(w.Leads), k, k+1)}
}

// looseByCutting cuts each lead and counts the parts.
func looseByCutting(w impl.Window) []int {
	loose := []int{}
	for k := range w.Leads {
		if partsOf(withoutLead(w, k)) > partsOf(w) {
			loose = append(loose, k)
		}
	}
	return loose
}

// nodeTaken returns the window without node k and its leads.
func nodeTaken(w impl.Window, k int) impl.Window {
	rest := impl.Window{Nodes: slices.Delete(slices.Clone(w.Nodes), k, k+1)}
	for _, l := range w.Leads {
		if l.From == k || l.To == k {
			continue
		}
		if l.From > k {
			l.From--
		}
		if l.To > k {
			l.To--
		}
		rest.Leads = append(rest.Leads, l)
	}
	return rest
}

// endsOfOne counts how often each node is an end.
func endsOfOne(w impl.Window) []int {
	ends := []int{}
	for k := range w.Nodes {
		count := 0
		for _, l := range w.Leads {
			if l.From == k || l.To == k {
				count++
			}
		}
		if count == 1 {
			ends = append(ends, k)
		}
	}
	return ends
}

// prunedByHand takes off the first end, again and again.
func prunedByHand(w impl.Window) impl.Window {
	ends := endsOfOne(w)
	if len(ends) == 0 || len(w.Nodes) <= 2 {
		return w
	}
	return prunedByHand(nodeTaken(w, ends[0]))
}

func TestLooseLeadsByHand(t *testing.T) {
	for window, want := range map[string][]int{
		"sample": nil, "full": nil, "triangle": nil, "bow tie": nil, "pane in corner": nil, "wheel": nil,
		"one lead": {0}, "path": {0, 1, 2}, "sun": {0, 1, 2, 3, 4, 5, 6, 7},
		"inner spike": {3}, "outer spike": {3}, "bridge": {3}, "hanging pane": {0},
	} {
		w := wholeWindows()[window]
		if got := impl.LooseLeads(w); !slices.Equal(got, want) {
			t.Errorf("%s: LooseLeads = %v; want %v", window, got, want)
		}
		if got := impl.IsTight(w); got != (len(want) == 0) {
			t.Errorf("%s: IsTight = %v", window, got)
		}
	}
}

func TestALooseLeadHoldsTwoPartsTogether(t *testing.T) {
	for name, w := range someWholeWindows(11, 200) {
		want := looseByCutting(w)
		if got := impl.LooseLeads(w); !slices.Equal(got, want) {
			t.Errorf("%s: LooseLeads = %v; want %v", name, got, want)
		}
		if got := impl.IsTight(w); got != (len(want) == 0) {
			t.Errorf("%s: IsTight = %v", name, got)
		}
		for k := range w.Leads {
			cut, _ := impl.DropLead(w, k)
			isLoose := impl.IsLoose(w, k)
			if isLoose != slices.Contains(want, k) || isLoose != (impl.CountParts(cut) == 2) {
				t.Errorf("%s: IsLoose(%d) = %v", name, k, isLoose)
			}
		}
	}
}

func TestLeadsThatAreNotThereAreNotLoose(t *testing.T) {
	for name, w := range wholeWindows() {
		for _, k := range wrongIndices(len(w.Leads)) {
			if impl.IsLoose(w, k) {
				t.Errorf("%s: IsLoose(%d) = true", name, k)
			}
		}
	}
	for name, w := range notWholeWindows() {
		for k := -1; k <= 21; k++ {
			if impl.IsLoose(w, k) {
				t.Errorf("%s: IsLoose(%d) = true", name, k)
			}
		}
		if got := impl.LooseLeads(w); len(got) != 0 || impl.IsTight(w) {
			t.Errorf("%s: LooseLeads = %v and IsTight = %v", name, got, impl.IsTight(w))
		}
	}
}

func TestDropNode(t *testing.T) {
	for name, w := range allWindows() {
		for k := range w.Nodes {
			want, isLeft := nodeTaken(w, k), len(w.Nodes) > 1
			if !isLeft {
				want = w
			}
			if got, ok := impl.DropNode(w, k); ok != isLeft || !sameWindow(got, want) {
				t.Errorf("%s: DropNode(%d) = %v, %v; want %v, %v", name, k, got, ok, want, isLeft)
			}
		}
		for _, k := range wrongIndices(len(w.Nodes)) {
			if got, ok := impl.DropNode(w, k); ok || !sameWindow(got, w) {
				t.Errorf("%s: DropNode(%d) = %v, %v", name, k, got, ok)
			}
		}
	}
	for name, w := range invalidWindows() {
		for k := -1; k <= 13; k++ {
			if got, ok := impl.DropNode(w, k); ok || !sameWindow(got, w) {
				t.Errorf("%s: DropNode(%d) = %v, %v", name, k, got, ok)
			}
		}
	}
}

func TestDropNodeByHand(t *testing.T) {
	cases := []struct {
		name string
		w    impl.Window
		k    int
		want impl.Window
	}{
		{"the sample's middle", impl.SampleWindow(), 4, drawn([]int{0, 0, 8, 0, 8, 8, 0, 8}, 0, 1, 1, 2, 2, 3, 0, 3)},
		{"a corner of the sample", impl.SampleWindow(), 1, drawn([]int{0, 0, 8, 8, 0, 8, 4, 4}, 1, 2, 0, 2, 0, 3, 1, 3, 2, 3)},
		{"the first node", impl.SampleWindow(), 0, drawn([]int{8, 0, 8, 8, 0, 8, 4, 4}, 0, 1, 1, 2, 0, 3, 1, 3, 2, 3)},
		{"one end of a lead", wholeWindows()["one lead"], 0, drawn([]int{20, 20})},
		{"its other end", wholeWindows()["one lead"], 1, drawn([]int{0, 0})},
	}
	for _, c := range cases {
		if got, ok := impl.DropNode(c.w, c.k); !ok || !sameWindow(got, c.want) {
			t.Errorf("%s: DropNode(%d) = %v, %v; want %v", c.name, c.k, got, ok, c.want)
		}
	}
	alone := drawn([]int{7, 9})
	if got, ok := impl.DropNode(alone, 0); ok || !sameWindow(got, alone) {
		t.Errorf("DropNode leaves no node: %v, %v", got, ok)
	}
}

func TestEndNodes(t *testing.T) {
	for name, w := range allWindows() {
		if got := impl.EndNodes(w); !slices.Equal(got, endsOfOne(w)) {
			t.Errorf("%s: EndNodes = %v; want %v", name, got, endsOfOne(w))
		}
	}
	for name, w := range invalidWindows() {
		if got := impl.EndNodes(w); len(got) != 0 {
			t.Errorf("%s: EndNodes = %v; want nil", name, got)
		}
	}
	if got := impl.EndNodes(wholeWindows()["path"]); !slices.Equal(got, []int{0, 3}) {
		t.Errorf("EndNodes of a path = %v", got)
	}
	if got := impl.EndNodes(apartWindows()["three parts"]); !slices.Equal(got, []int{0, 1, 2, 3, 4, 5}) {
		t.Errorf("EndNodes of three leads = %v", got)
	}
}

func TestPruneEndsByHand(t *testing.T) {
	triangle := drawn([]int{0, 0, 12, 0, 0, 12}, 0, 1, 1, 2, 0, 2)
	whole := wholeWindows()
	cases := []struct {
		name    string
		w, want impl.Window
	}{
		{"nothing to take off", impl.SampleWindow(), impl.SampleWindow()},
		{"one lead", whole["one lead"], whole["one lead"]},
		{"a path", whole["path"], drawn([]int{9, 1, 9, 8}, 0, 1)},
		{"a star", whole["sun"], drawn([]int{10, 10, 20, 0}, 0, 1)},
		{"a loose lead within", whole["inner spike"], triangle},
		{"a loose lead outside", whole["outer spike"], triangle},
		{"a bridge stays", whole["bridge"], whole["bridge"]},
		{"a long end", drawn([]int{20, 20, 0, 0, 16, 12, 12, 0, 0, 12, 14, 4}, 0, 2, 1, 3, 3, 4, 1, 4, 2, 5, 3, 5), triangle},
	}
	for _, c := range cases {
		if got, ok := impl.PruneEnds(c.w); !ok || !sameWindow(got, c.want) {
			t.Errorf("%s: PruneEnds = %v, %v; want %v", c.name, got, ok, c.want)
		}
	}
}

func TestEndsCanBeTakenOff(t *testing.T) {
	for name, w := range someWholeWindows(111, 300) {
		want := prunedByHand(w)
		got, ok := impl.PruneEnds(w)
		if !ok || !sameWindow(got, want) {
			t.Errorf("%s: PruneEnds = %v, %v; want %v", name, got, ok, want)
		}
		if len(impl.EndNodes(got)) > 0 && len(got.Nodes) > 2 {
			t.Errorf("%s: PruneEnds leaves the ends %v", name, impl.EndNodes(got))
		}
		if impl.CountPanes(got) != impl.CountPanes(w) {
			t.Errorf("%s: PruneEnds takes off a pane", name)
		}
	}
	for name, w := range notWholeWindows() {
		if got, ok := impl.PruneEnds(w); ok || !sameWindow(got, w) {
			t.Errorf("%s: PruneEnds = %v, %v", name, got, ok)
		}
	}
}

func TestLooseLeadsLeaveWindowsAsTheyAre(t *testing.T) {
	windows := allWindows()
	for name, w := range invalidWindows() {
		windows[name] = w
	}
	for name, w := range windows {
		roomy, isUntouched := roomyWindow(w)
		checkFresh(t, name+", chapter 11", func() [][]int {
			return [][]int{impl.LooseLeads(roomy), impl.EndNodes(roomy)}
		})
		for k := -1; k <= min(len(w.Nodes), 13); k++ {
			checkFreshWindow(t, name+", DropNode", func() impl.Window {
				got, _ := impl.DropNode(roomy, k)
				return got
			})
			impl.IsLoose(roomy, k)
		}
		checkFreshWindow(t, name+", PruneEnds", func() impl.Window {
			got, _ := impl.PruneEnds(roomy)
			return got
		})
		impl.IsTight(roomy)
		if !isUntouched() {
			t.Errorf("%s: the argument is modified, or a result shares its memory", name)
		}
	}
}
