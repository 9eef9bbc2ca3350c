package tests

import (
	"math"
	"slices"
	"testing"

	"loop.example/g03303/impl"
)

// nextByAngle turns to the right from the way back until it meets a dart; the
// way back itself comes last.
func nextByAngle(w impl.Window, d int) int {
	back := d/2*2 + 1 - d%2
	best, least := back, 2*math.Pi
	_, node := dartEnds(w, d)
	for e := range 2 * len(w.Leads) {
		if from, _ := dartEnds(w, e); from != node || e == back {
			continue
		}
		turn := angleOfDart(w, back) - angleOfDart(w, e)
		if turn < 0 {
			turn += 2 * math.Pi
		}
		if turn < least {
			best, least = e, turn
		}
	}
	return best
}

func walkByAngle(w impl.Window, d int) []int {
	walk := []int{d}
	for e := nextByAngle(w, d); e != d; e = nextByAngle(w, e) {
		walk = append(walk, e)
	}
	return walk
}

// areaByStrips sums the strips between the leads and the left border.
func areaByStrips(w impl.Window, walk []int) int {
	area := 0
	for _, d := range walk {
		from, to := dartEnds(w, d)
		area += (w.Nodes[from].X + w.Nodes[to].X) * (w.Nodes[to].Y - w.Nodes[from].Y)
	}
	return area
}

func TestWalksByHand(t *testing.T) {
	whole, apart := wholeWindows(), apartWindows()
	cases := []struct {
		name string
		w    impl.Window
		d    int
		want []int
		area int
	}{
		{"a pane of the sample", impl.SampleWindow(), 0, []int{0, 10, 9}, 32},
		{"the same pane from elsewhere", impl.SampleWindow(), 10, []int{10, 9, 0}, 32},
		{"around the sample", impl.SampleWindow(), 1, []int{1, 6, 5, 3}, -128},
		{"a single lead", whole["one lead"], 0, []int{0, 1}, 0},
		{"a single lead backwards", whole["one lead"], 1, []int{1, 0}, 0},
		{"around a path", whole["path"], 0, []int{0, 4, 5, 1, 3, 2}, 0},
		{"a triangle", whole["triangle"], 0, []int{0, 2, 5}, 36},
		{"around a triangle", whole["triangle"], 1, []int{1, 4, 3}, -36},
		{"along a loose lead within", whole["inner spike"], 0, []int{0, 2, 5, 6, 7}, 144},
		{"around it", whole["inner spike"], 1, []int{1, 4, 3}, -144},
		{"a pane with a loose lead outside", whole["outer spike"], 0, []int{0, 2, 5}, 144},
		{"along a loose lead outside", whole["outer spike"], 1, []int{1, 4, 3, 6, 7}, -144},
		{"around two panes at one node", whole["bow tie"], 0, []int{0, 2, 5, 10, 9, 7}, -32},
		{"around two panes on a bridge", whole["bridge"], 6, []int{6, 12, 11, 9, 7, 1, 4, 3}, -32},
		{"around a pane that hangs in another one", whole["hanging pane"], 0, []int{0, 14, 13, 11, 1, 2, 4, 6, 9}, 496},
		{"one of two windows", apart["side by side"], 0, []int{0, 2, 5}, 16},
		{"around the other one", apart["side by side"], 7, []int{7, 10, 9}, -16},
		{"around a window within another one", apart["one in another"], 7, []int{7, 10, 9}, -16},
		{"within the outer one, as if the inner one were not there", apart["one in another"], 0, []int{0, 2, 5}, 256},
	}
	for _, c := range cases {
		if got := impl.WalkOf(c.w, c.d); !slices.Equal(got, c.want) {
			t.Errorf("%s: WalkOf(%d) = %v; want %v", c.name, c.d, got, c.want)
		}
		if got := impl.WalkArea(c.w, c.d); got != c.area {
			t.Errorf("%s: WalkArea(%d) = %d; want %d", c.name, c.d, got, c.area)
		}
		if got := impl.WalkLength(c.w, c.d); got != len(c.want) {
			t.Errorf("%s: WalkLength(%d) = %d; want %d", c.name, c.d, got, len(c.want))
		}
	}
}

// checkWalks compares all that chapter 6 says of one window, and its promise.
func checkWalks(t *testing.T, name string, w impl.Window) {
	t.Helper()
	count := make([]int, 2*len(w.Leads))
	area := 0
	for d := range count {
		want := walkByAngle(w, d)
		if got := impl.NextDart(w, d); got != nextByAngle(w, d) || got != impl.LastAround(w, impl.TwinOf(d)) {
			t.Errorf("%s: NextDart(%d) = %d; want %d", name, d, got, nextByAngle(w, d))
		}
		if got := impl.WalkOf(w, d); !slices.Equal(got, want) {
			t.Errorf("%s: WalkOf(%d) = %v; want %v", name, d, got, want)
		}
		if got := impl.WalkArea(w, d); got != areaByStrips(w, want) {
			t.Errorf("%s: WalkArea(%d) = %d; want %d", name, d, got, areaByStrips(w, want))
		}
		if got := impl.WalkLength(w, d); got != len(want) {
			t.Errorf("%s: WalkLength(%d) = %d; want %d", name, d, got, len(want))
		}
		for e := range count {
			if got := impl.SameWalk(w, d, e); got != slices.Contains(want, e) {
				t.Errorf("%s: SameWalk(%d, %d) = %v", name, d, e, got)
			}
		}
		if slices.Min(want) == d {
			area += impl.WalkArea(w, d)
			for _, e := range impl.WalkOf(w, d) {
				count[e]++
			}
		}
	}
	if area != 0 {
		t.Errorf("%s: all areas together are %d", name, area)
	}
	for d, n := range count {
		if n != 1 {
			t.Errorf("%s: dart %d is in %d walks", name, d, n)
		}
	}
}

func TestEveryDartIsInOneWalk(t *testing.T) {
	for name, w := range allWindows() {
		checkWalks(t, name, w)
	}
	for name, w := range someWholeWindows(6, 200) {
		checkWalks(t, name, w)
	}
}

func TestLooseLeadsAreWalkedOnBothSides(t *testing.T) {
	for name, k := range map[string]int{"one lead": 0, "path": 1, "sun": 4, "inner spike": 3, "outer spike": 3, "bridge": 3, "hanging pane": 0} {
		w := wholeWindows()[name]
		if !impl.SameWalk(w, 2*k, 2*k+1) || !impl.SameWalk(w, 2*k+1, 2*k) {
			t.Errorf("%s: the two sides of lead %d are on two walks", name, k)
		}
	}
	for d := range 16 {
		if impl.SameWalk(impl.SampleWindow(), d, impl.TwinOf(d)) {
			t.Errorf("both sides of dart %d of the sample are on one walk", d)
		}
	}
}

func checkNoWalk(t *testing.T, name string, w impl.Window, d int) {
	t.Helper()
	if got := impl.NextDart(w, d); got != -1 {
		t.Errorf("%s: NextDart(%d) = %d; want -1", name, d, got)
	}
	if got := impl.WalkOf(w, d); len(got) != 0 {
		t.Errorf("%s: WalkOf(%d) = %v; want nil", name, d, got)
	}
	if area, length := impl.WalkArea(w, d), impl.WalkLength(w, d); area != 0 || length != 0 {
		t.Errorf("%s: the walk of %d has the area %d and the length %d", name, d, area, length)
	}
	if impl.SameWalk(w, d, d) || impl.SameWalk(w, d, 0) || impl.SameWalk(w, 0, d) {
		t.Errorf("%s: dart %d is on a walk", name, d)
	}
}

func TestDartsThatAreNotThereHaveNoWalk(t *testing.T) {
	for name, w := range allWindows() {
		for _, d := range wrongIndices(2 * len(w.Leads)) {
			checkNoWalk(t, name, w, d)
		}
	}
	for name, w := range invalidWindows() {
		for d := -1; d <= 2*impl.MaxLeads+2; d++ {
			checkNoWalk(t, name, w, d)
		}
	}
}

func TestWalksLeaveWindowsAsTheyAre(t *testing.T) {
	for name, w := range allWindows() {
		roomy, isUntouched := roomyWindow(w)
		for d := range 2 * len(w.Leads) {
			checkFresh(t, name+", WalkOf", func() [][]int { return [][]int{impl.WalkOf(roomy, d)} })
			impl.NextDart(roomy, d)
			impl.WalkArea(roomy, d)
			impl.SameWalk(roomy, d, 0)
			impl.WalkLength(roomy, d)
		}
		if !isUntouched() {
			t.Errorf("%s: the argument is modified, or a result shares its memory", name)
		}
	}
}
