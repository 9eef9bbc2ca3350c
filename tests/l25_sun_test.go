package tests

import (
	"math/rand"
	"testing"

	"loop.example/g03303/impl"
)

// sunsNotOk hold a number just past each limit and the extreme ints.
var sunsNotOk = []impl.Sun{
	{}, {Side: -1001, Fall: 2, Unit: 4}, {Side: 1001, Fall: 2, Unit: 4}, {Side: 1, Fall: 0, Unit: 4}, {Side: 1, Fall: 1001, Unit: 4},
	{Side: 1, Fall: 2, Unit: 0}, {Side: 1, Fall: 2, Unit: 101}, {Side: 1, Fall: -2, Unit: 4}, {Side: 1, Fall: 2, Unit: -4},
	{Side: leastInt, Fall: 2, Unit: 4}, {Side: greatestInt, Fall: 2, Unit: 4}, {Side: 1, Fall: leastInt, Unit: 4}, {Side: 1, Fall: greatestInt, Unit: 4},
	{Side: 1, Fall: 2, Unit: leastInt}, {Side: 1, Fall: 2, Unit: greatestInt},
}

// sillsNotOk are just past each limit, and the extreme ints.
var sillsNotOk = []int{-1, -2, 1001, leastInt, greatestInt}

func randomSun(source *rand.Rand) impl.Sun {
	return impl.Sun{Side: source.Intn(2001) - 1000, Fall: 1 + source.Intn(1000), Unit: 1 + source.Intn(100)}
}

// spot is what SpotOf returns.
type spot struct {
	along, depth, parts int
	ok                  bool
}

func spotOf(n impl.Node, sill int, s impl.Sun) spot {
	along, depth, parts, ok := impl.SpotOf(n, sill, s)
	return spot{along, depth, parts, ok}
}

func TestSunOk(t *testing.T) {
	fine := []impl.Sun{
		{Side: -1000, Fall: 1, Unit: 1}, {Side: 1000, Fall: 1000, Unit: 100}, {Side: 0, Fall: 1, Unit: 100}, {Side: -1, Fall: 1000, Unit: 1}, {Side: 1, Fall: 2, Unit: 4},
	}
	for _, s := range fine {
		if !impl.SunOk(s) {
			t.Errorf("SunOk(%v) = false", s)
		}
	}
	for _, s := range sunsNotOk {
		if impl.SunOk(s) {
			t.Errorf("SunOk(%v) = true", s)
		}
	}
}

func TestSpotOfByHand(t *testing.T) {
	cases := []struct {
		name string
		n    impl.Node
		sill int
		s    impl.Sun
		want spot
	}{
		{"to the right", impl.Node{X: 3, Y: 4}, 6, impl.Sun{Side: 1, Fall: 2, Unit: 4}, spot{16, 40, 2, true}},
		{"to the left", impl.Node{X: 3, Y: 4}, 6, impl.Sun{Side: -1, Fall: 2, Unit: 4}, spot{-4, 40, 2, true}},
		{"straight into the room", impl.Node{X: 3, Y: 4}, 6, impl.Sun{Side: 0, Fall: 2, Unit: 4}, spot{6, 40, 2, true}},
		{"at the floor", impl.Node{X: 7, Y: 0}, 0, impl.Sun{Side: 1000, Fall: 3, Unit: 5}, spot{21, 0, 3, true}},
		{"without a sill", impl.Node{X: 0, Y: 20}, 0, impl.Sun{Side: -1000, Fall: 1, Unit: 100}, spot{-20000, 2000, 1, true}},
		{"the highest sill", impl.Node{X: 20, Y: 20}, 1000, impl.Sun{Side: 1000, Fall: 1000, Unit: 100}, spot{1040000, 102000, 1000, true}},
		{"the lowest slope", impl.Node{X: 20, Y: 20}, 1000, impl.Sun{Side: -1000, Fall: 1, Unit: 100}, spot{-1019980, 102000, 1, true}},
		{"the steepest slope", impl.Node{X: 1, Y: 1}, 1, impl.Sun{Side: 1, Fall: 1000, Unit: 1}, spot{1002, 2, 1000, true}},
	}
	for _, c := range cases {
		if got := spotOf(c.n, c.sill, c.s); got != c.want {
			t.Errorf("%s: SpotOf = %v; want %v", c.name, got, c.want)
		}
	}
}

func TestSpotsThatAreNotThere(t *testing.T) {
	n, s := impl.Node{X: 3, Y: 4}, impl.Sun{Side: 1, Fall: 2, Unit: 4}
	for _, wrong := range nodesNotOnBoard {
		if got := spotOf(wrong, 6, s); got != (spot{}) || impl.IsInRoom(wrong, 6, s, 1000) {
			t.Errorf("SpotOf(%v) = %v", wrong, got)
		}
	}
	for _, wrong := range sunsNotOk {
		if got := spotOf(n, 6, wrong); got != (spot{}) || impl.IsInRoom(n, 6, wrong, 1000) {
			t.Errorf("SpotOf with the sun %v = %v", wrong, got)
		}
	}
	for _, wrong := range sillsNotOk {
		if got := spotOf(n, wrong, s); got != (spot{}) || impl.IsInRoom(n, wrong, s, 1000) {
			t.Errorf("SpotOf with the sill %d = %v", wrong, got)
		}
	}
	for _, sill := range []int{0, 1000} {
		if got := spotOf(n, sill, s); !got.ok || got.depth != 4*(sill+4) {
			t.Errorf("SpotOf with the sill %d = %v", sill, got)
		}
	}
}

func TestSpotAreaByHand(t *testing.T) {
	whole := wholeWindows()
	cases := []struct {
		window      string
		f, sill     int
		s           impl.Sun
		area, parts int
	}{
		{"sample", 0, 6, impl.Sun{Side: 1, Fall: 2, Unit: 4}, 128, 2},
		{"sample", 1, 6, impl.Sun{Side: -7, Fall: 2, Unit: 4}, 512, 2},
		{"sample", 4, 0, impl.Sun{Side: 1000, Fall: 1000, Unit: 100}, 3200, 1000},
		{"sample", 2, 1000, impl.Sun{Side: -1000, Fall: 1, Unit: 1}, 32, 1},
		{"one lead", 0, 5, impl.Sun{Side: 3, Fall: 7, Unit: 9}, 0, 7},
		{"triangle", 1, 5, impl.Sun{Side: 3, Fall: 36, Unit: 6}, 216, 36},
	}
	for _, c := range cases {
		area, parts, ok := impl.SpotArea(whole[c.window], c.f, c.sill, c.s)
		if !ok || area != c.area || parts != c.parts {
			t.Errorf("%s: SpotArea(%d) = %d, %d, %v; want %d, %d", c.window, c.f, area, parts, ok, c.area, c.parts)
		}
	}
}

func checkNoSpotArea(t *testing.T, name string, w impl.Window, f int, sill int, s impl.Sun) {
	t.Helper()
	if area, parts, ok := impl.SpotArea(w, f, sill, s); ok || area != 0 || parts != 0 {
		t.Errorf("%s: SpotArea(%d, %d, %v) = %d, %d, %v", name, f, sill, s, area, parts, ok)
	}
}

func TestSpotAreasThatAreNotThere(t *testing.T) {
	s := impl.Sun{Side: 1, Fall: 2, Unit: 4}
	for name, w := range wholeWindows() {
		for _, f := range wrongIndices(len(facesByAngle(w))) {
			checkNoSpotArea(t, name, w, f, 6, s)
		}
		for _, wrong := range sunsNotOk {
			checkNoSpotArea(t, name, w, 0, 6, wrong)
		}
		for _, wrong := range sillsNotOk {
			checkNoSpotArea(t, name, w, 0, wrong, s)
		}
		for _, sill := range []int{0, 1000} {
			if area, parts, ok := impl.SpotArea(w, 0, sill, s); !ok || area != 4*impl.AreaOf(w, 0) || parts != 2 {
				t.Errorf("%s: SpotArea with the sill %d = %d, %d, %v", name, sill, area, parts, ok)
			}
		}
	}
	for name, w := range notWholeWindows() {
		for f := -1; f <= 3; f++ {
			checkNoSpotArea(t, name, w, f, 6, s)
		}
	}
}

// areaOfSpots goes along the spots of the nodes of a face, and returns twice
// the area within, times the square of the common denominator.
func areaOfSpots(t *testing.T, w impl.Window, f int, sill int, s impl.Sun) int {
	t.Helper()
	area := 0
	for _, d := range facesByAngle(w)[f] {
		from, to := dartEnds(w, d)
		a, b := spotOf(w.Nodes[from], sill, s), spotOf(w.Nodes[to], sill, s)
		if !a.ok || !b.ok {
			t.Fatalf("SpotOf of a node of a valid window = %v and %v", a, b)
		}
		area += a.along*b.depth - a.depth*b.along
	}
	return max(area, -area)
}

func TestTheSpotHasTheAreaOfThePaneByTheSlopeOfTheSun(t *testing.T) {
	source := rand.New(rand.NewSource(25))
	for name, w := range byName(someWholeWindows(251, 100)) {
		sill, s := source.Intn(1001), randomSun(source)
		for f, walk := range facesByAngle(w) {
			area, parts, ok := impl.SpotArea(w, f, sill, s)
			pane := areaByStrips(w, walk)
			if !ok || parts != s.Fall || area != s.Unit*max(pane, -pane) {
				t.Errorf("%s: SpotArea(%d, %d, %v) = %d, %d, %v", name, f, sill, s, area, parts, ok)
			}
			// The spots have the denominator Fall twice in their area.
			if spots := areaOfSpots(t, w, f, sill, s); spots != area*s.Fall {
				t.Errorf("%s: the spots of face %d have the area %d / %d², not %d / %d", name, f, spots, s.Fall, area, parts)
			}
		}
	}
}

func TestDeepestNode(t *testing.T) {
	s, windows := impl.Sun{Side: 1, Fall: 2, Unit: 4}, allWindows()
	cases := map[string]int{"sample": 2, "one node": 0, "path": 3, "sun": 1, "steep lead": 0, "two cells": 3, "wheel": 2, "arrow": 2, "no leads": 2, "full": 8, "backwards": 0}
	for name, want := range cases {
		for _, sill := range []int{0, 6, 1000} {
			if got := impl.DeepestNode(windows[name], sill, s); got != want {
				t.Errorf("%s: DeepestNode = %d; want %d", name, got, want)
			}
		}
	}
	for name, w := range windows {
		for _, wrong := range sunsNotOk {
			if got := impl.DeepestNode(w, 6, wrong); got != -1 {
				t.Errorf("%s: DeepestNode with the sun %v = %d; want -1", name, wrong, got)
			}
		}
		for _, wrong := range sillsNotOk {
			if got := impl.DeepestNode(w, wrong, s); got != -1 {
				t.Errorf("%s: DeepestNode with the sill %d = %d; want -1", name, wrong, got)
			}
		}
	}
	for name, w := range invalidWindows() {
		if got := impl.DeepestNode(w, 6, s); got != -1 {
			t.Errorf("%s: DeepestNode = %d; want -1", name, got)
		}
	}
}

func TestNoNodeIsDeeperThanTheDeepest(t *testing.T) {
	source := rand.New(rand.NewSource(250))
	windows := allWindows()
	for i := range 100 {
		windows["random "+impl.FormatInt(i)] = randomWhole(source)
	}
	for name, w := range byName(windows) {
		sill, s := source.Intn(1001), randomSun(source)
		deepest := impl.DeepestNode(w, sill, s)
		depth := spotOf(w.Nodes[deepest], sill, s).depth
		for k, n := range w.Nodes {
			if other := spotOf(n, sill, s).depth; other > depth || k < deepest && other == depth {
				t.Errorf("%s: DeepestNode = %d, but node %d is at %d / %d", name, deepest, k, other, s.Fall)
			}
		}
	}
}

func TestIsInRoom(t *testing.T) {
	n, s := impl.Node{X: 3, Y: 4}, impl.Sun{Side: 1, Fall: 2, Unit: 4}
	odd, steep := impl.Sun{Side: 1, Fall: 7, Unit: 4}, impl.Sun{Fall: 1000, Unit: 1}
	flat := impl.Sun{Side: -1000, Fall: 1, Unit: 1}
	cases := []struct {
		name  string
		n     impl.Node
		sill  int
		s     impl.Sun
		depth int
		want  bool
	}{
		{"just reached", n, 6, s, 20, true},
		{"one too little", n, 6, s, 19, false},
		{"one more", n, 6, s, 21, true},
		{"between two depths", n, 6, odd, 5, false},
		{"just above", n, 6, odd, 6, true},
		{"at the wall", impl.Node{X: 5}, 0, s, 0, true},
		{"not at the wall", impl.Node{Y: 1}, 0, steep, 0, false},
		{"near the wall", impl.Node{Y: 1}, 0, steep, 1, true},
		{"a depth of 1000, just reached", impl.Node{}, 1000, flat, 1000, true},
		{"a depth of 1000, not reached", impl.Node{Y: 1}, 1000, flat, 1000, false},
		{"a depth of 999", impl.Node{}, 1000, flat, 999, false},
		{"a depth of 1001", impl.Node{}, 1000, flat, 1001, false},
		{"a negative depth", impl.Node{X: 5}, 0, s, -1, false},
		{"the least depth", impl.Node{X: 5}, 0, s, leastInt, false},
		{"the greatest depth", impl.Node{X: 5}, 0, s, greatestInt, false},
		{"a depth with an overflow", n, 6, s, 1 << 62, false},
	}
	for _, c := range cases {
		if got := impl.IsInRoom(c.n, c.sill, c.s, c.depth); got != c.want {
			t.Errorf("%s: IsInRoom = %v", c.name, got)
		}
	}
	source := rand.New(rand.NewSource(252))
	for range 3000 {
		n, sill, s, depth := impl.Node{X: source.Intn(21), Y: source.Intn(21)}, source.Intn(1001), randomSun(source), source.Intn(1001)
		want := (sill+n.Y)*s.Unit <= depth*s.Fall
		if got := impl.IsInRoom(n, sill, s, depth); got != want {
			t.Errorf("IsInRoom(%v, %d, %v, %d) = %v", n, sill, s, depth, got)
		}
	}
}

func TestTheSunLeavesWindowsAsTheyAre(t *testing.T) {
	s := impl.Sun{Side: 1, Fall: 2, Unit: 4}
	for name, w := range wholeWindows() {
		roomy, isUntouched := roomyWindow(w)
		deepest := impl.DeepestNode(roomy, 6, s)
		area, _, _ := impl.SpotArea(roomy, 0, 6, s)
		if again, _, _ := impl.SpotArea(roomy, 0, 6, s); again != area || impl.DeepestNode(roomy, 6, s) != deepest {
			t.Errorf("%s: a second call returns something else", name)
		}
		if !isUntouched() {
			t.Errorf("%s is modified", name)
		}
	}
}
