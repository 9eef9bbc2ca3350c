package tests

import (
	"cmp"
	"slices"
	"testing"

	"loop.example/g03303/impl"
)

// dartEnds reads a dart as the document describes it.
func dartEnds(w impl.Window, d int) (int, int) {
	l := w.Leads[d/2]
	if d%2 == 0 {
		return l.From, l.To
	}
	return l.To, l.From
}

func angleOfDart(w impl.Window, d int) float64 {
	from, to := dartEnds(w, d)
	return angleOf(w.Nodes[from], w.Nodes[to])
}

// dartsByAngle measures the directions instead of comparing them.
func dartsByAngle(w impl.Window, k int) []int {
	darts := []int{}
	for d := range 2 * len(w.Leads) {
		if from, _ := dartEnds(w, d); from == k {
			darts = append(darts, d)
		}
	}
	slices.SortFunc(darts, func(d, e int) int { return cmp.Compare(angleOfDart(w, d), angleOfDart(w, e)) })
	return darts
}

func TestTwinOf(t *testing.T) {
	for lead := range impl.MaxLeads {
		if got := impl.TwinOf(2 * lead); got != 2*lead+1 {
			t.Errorf("TwinOf(%d) = %d", 2*lead, got)
		}
		if got := impl.TwinOf(2*lead + 1); got != 2*lead {
			t.Errorf("TwinOf(%d) = %d", 2*lead+1, got)
		}
	}
	if impl.TwinOf(39) != 38 || impl.TwinOf(38) != 39 {
		t.Error("TwinOf rejects the darts of the last lead")
	}
	for _, d := range []int{-1, -2, -39, leastInt, 40, 41, 42, greatestInt, greatestInt - 1} {
		if got := impl.TwinOf(d); got != -1 {
			t.Errorf("TwinOf(%d) = %d; want -1", d, got)
		}
	}
}

func TestEndsOfDarts(t *testing.T) {
	for name, w := range allWindows() {
		for d := range 2 * len(w.Leads) {
			from, to := dartEnds(w, d)
			if gotFrom, gotTo := impl.DartFrom(w, d), impl.DartTo(w, d); gotFrom != from || gotTo != to {
				t.Errorf("%s: dart %d is from %d to %d; want %d and %d", name, d, gotFrom, gotTo, from, to)
			}
			twin := impl.TwinOf(d)
			if impl.DartFrom(w, twin) != to || impl.DartTo(w, twin) != from {
				t.Errorf("%s: the twin of dart %d is not its opposite", name, d)
			}
		}
	}
	if w := impl.SampleWindow(); impl.DartFrom(w, 6) != 0 || impl.DartTo(w, 6) != 3 || impl.DartFrom(w, 15) != 4 || impl.DartTo(w, 15) != 3 {
		t.Error("a dart of the sample window has other ends")
	}
}

func TestDartBetween(t *testing.T) {
	for name, w := range allWindows() {
		for a := -2; a <= len(w.Nodes)+1; a++ {
			for b := -2; b <= len(w.Nodes)+1; b++ {
				want := -1
				for d := range 2 * len(w.Leads) {
					if from, to := dartEnds(w, d); from == a && to == b {
						want = d
					}
				}
				if got := impl.DartBetween(w, a, b); got != want {
					t.Errorf("%s: DartBetween(%d, %d) = %d; want %d", name, a, b, got, want)
				}
			}
		}
		for _, k := range wrongIndices(len(w.Nodes)) {
			if impl.DartBetween(w, k, 0) != -1 || impl.DartBetween(w, 0, k) != -1 || impl.DartBetween(w, k, k) != -1 {
				t.Errorf("%s: DartBetween finds a dart at node %d", name, k)
			}
		}
	}
	w := impl.SampleWindow()
	if impl.DartBetween(w, 0, 2) != -1 || impl.DartBetween(w, 2, 0) != -1 || impl.DartBetween(w, 3, 0) != 7 || impl.DartBetween(w, 0, 3) != 6 {
		t.Error("DartBetween is wrong for the sample window")
	}
}

func TestAroundNodeByHand(t *testing.T) {
	sun := wholeWindows()["sun"]
	cases := []struct {
		name string
		w    impl.Window
		k    int
		want []int
	}{
		{"right, up, left and down", crossWindow(), 0, []int{2, 6, 0, 4}},
		{"eight directions", sun, 0, []int{10, 4, 14, 8, 0, 12, 6, 2}},
		{"the sample's middle", impl.SampleWindow(), 4, []int{13, 15, 9, 11}},
		{"a corner", impl.SampleWindow(), 0, []int{0, 8, 6}},
		{"the opposite corner", impl.SampleWindow(), 2, []int{4, 12, 3}},
		{"one lead", wholeWindows()["one lead"], 1, []int{1}},
		{"one lead from below", wholeWindows()["one lead"], 0, []int{0}},
		{"a node without leads", crossWindow(), 5, nil},
		{"a node alone", apartWindows()["one node"], 0, nil},
	}
	for _, c := range cases {
		if got := impl.AroundNode(c.w, c.k); !slices.Equal(got, c.want) {
			t.Errorf("%s: AroundNode = %v; want %v", c.name, got, c.want)
		}
	}
}

// checkAround compares all that chapter 5 says of one window.
func checkAround(t *testing.T, name string, w impl.Window) {
	t.Helper()
	count := make([]int, 2*len(w.Leads))
	for k := range w.Nodes {
		want := dartsByAngle(w, k)
		got := impl.AroundNode(w, k)
		if !slices.Equal(got, want) {
			t.Errorf("%s: AroundNode(%d) = %v; want %v", name, k, got, want)
		}
		for i, d := range want {
			count[d]++
			next, last := want[(i+1)%len(want)], want[(i+len(want)-1)%len(want)]
			if got := impl.NextAround(w, d); got != next {
				t.Errorf("%s: NextAround(%d) = %d; want %d", name, d, got, next)
			}
			if got := impl.LastAround(w, d); got != last {
				t.Errorf("%s: LastAround(%d) = %d; want %d", name, d, got, last)
			}
		}
	}
	for d, n := range count {
		if n != 1 {
			t.Errorf("%s: dart %d comes %d times", name, d, n)
		}
	}
}

func TestEveryDartComesOnceAroundNodes(t *testing.T) {
	for name, w := range allWindows() {
		checkAround(t, name, w)
	}
	for name, w := range someWholeWindows(5, 200) {
		checkAround(t, name, w)
	}
}

func TestGoingAroundANode(t *testing.T) {
	w := crossWindow()
	first, last := 2, 4
	if impl.NextAround(w, last) != first || impl.LastAround(w, first) != last {
		t.Error("the first dart does not follow the last one")
	}
	if impl.NextAround(w, first) != 6 || impl.LastAround(w, last) != 0 {
		t.Error("NextAround or LastAround goes around the wrong way")
	}
	line := wholeWindows()["one lead"]
	for d := range 2 {
		if impl.NextAround(line, d) != d || impl.LastAround(line, d) != d {
			t.Errorf("dart %d, which is alone at its node, does not follow itself", d)
		}
	}
}

func checkNoDart(t *testing.T, name string, w impl.Window, d int) {
	t.Helper()
	for _, got := range []int{impl.DartFrom(w, d), impl.DartTo(w, d), impl.NextAround(w, d), impl.LastAround(w, d)} {
		if got != -1 {
			t.Errorf("%s: dart %d has a %d; want -1", name, d, got)
		}
	}
}

func TestDartsThatAreNotThere(t *testing.T) {
	for name, w := range allWindows() {
		for _, d := range wrongIndices(2 * len(w.Leads)) {
			checkNoDart(t, name, w, d)
		}
		for _, k := range wrongIndices(len(w.Nodes)) {
			if got := impl.AroundNode(w, k); len(got) != 0 {
				t.Errorf("%s: AroundNode(%d) = %v; want nil", name, k, got)
			}
		}
	}
}

func TestInvalidWindowsHaveNoDarts(t *testing.T) {
	for name, w := range invalidWindows() {
		for d := -1; d <= 2*impl.MaxLeads+2; d++ {
			checkNoDart(t, name, w, d)
		}
		for a := -1; a <= 13; a++ {
			if got := impl.AroundNode(w, a); len(got) != 0 {
				t.Errorf("%s: AroundNode(%d) = %v; want nil", name, a, got)
			}
			for b := -1; b <= 13; b++ {
				if got := impl.DartBetween(w, a, b); got != -1 {
					t.Errorf("%s: DartBetween(%d, %d) = %d; want -1", name, a, b, got)
				}
			}
		}
	}
}

func TestDartsLeaveWindowsAsTheyAre(t *testing.T) {
	for name, w := range allWindows() {
		roomy, isUntouched := roomyWindow(w)
		for k := range w.Nodes {
			checkFresh(t, name+", AroundNode", func() [][]int { return [][]int{impl.AroundNode(roomy, k)} })
			impl.DartBetween(roomy, k, 0)
		}
		for d := range 2 * len(w.Leads) {
			impl.DartFrom(roomy, d)
			impl.DartTo(roomy, d)
			impl.NextAround(roomy, d)
			impl.LastAround(roomy, d)
		}
		if !isUntouched() {
			t.Errorf("%s: the argument is modified, or a result shares its memory", name)
		}
	}
}
