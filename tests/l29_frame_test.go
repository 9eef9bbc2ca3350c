package tests

import (
	"math/rand"
	"slices"
	"testing"

	"loop.example/g03303/impl"
)

// apartsNotOk and limitsNotOk are just past each limit, and the extreme ints.
var (
	apartsNotOk = []int{0, -1, 41, leastInt, greatestInt}
	limitsNotOk = []int{-1, 1000001, leastInt, greatestInt}
)

// rootByHand goes down from the length of the longest lead.
func rootByHand(square int) int {
	root := 29
	for root*root > square {
		root--
	}
	return root
}

func lengthByHand(w impl.Window) int {
	length := 0
	for _, l := range w.Leads {
		a, b := w.Nodes[l.From], w.Nodes[l.To]
		length += rootByHand((a.X-b.X)*(a.X-b.X) + (a.Y-b.Y)*(a.Y-b.Y))
	}
	return length
}

// momentsByHand integrates X and Y over the faces within, strip by strip: the
// strip under a lead (for X) and beside it (for Y) by Simpson's rule, which is
// exact there. They are six times the integrals.
func momentsByHand(w impl.Window) (int, int) {
	sumX, sumY := 0, 0
	for _, f := range facesWithin(w) {
		for _, dart := range facesByAngle(w)[f] {
			from, to := dartEnds(w, dart)
			a, b := w.Nodes[from], w.Nodes[to]
			products := a.X*a.Y + (a.X+b.X)*(a.Y+b.Y) + b.X*b.Y
			sumX -= (b.X - a.X) * products
			sumY += (b.Y - a.Y) * products
		}
	}
	return sumX, sumY
}

func middleOf(w impl.Window) [3]int {
	x, y, unit := impl.MiddleOf(w)
	return [3]int{x, y, unit}
}

func forceOf(w impl.Window, thick int, side int, apart int) [2]int {
	force, unit := impl.HingeForce(w, thick, side, apart)
	return [2]int{force, unit}
}

func TestMiddleAndWeightByHand(t *testing.T) {
	whole := wholeWindows()
	cases := []struct {
		window         string
		middle         [3]int
		weight, length int
	}{
		{"sample", [3]int{1536, 1536, 384}, 128, 52},      // 4, 4; its four inner leads are 5.6 long
		{"triangle", [3]int{216, 216, 108}, 36, 20},       // 2, 2; 8.4 is rounded down
		{"backwards", [3]int{216, 216, 108}, 36, 20},      //
		{"two cells", [3]int{768, 384, 192}, 64, 28},      // 4, 2
		{"inner spike", [3]int{1728, 1728, 432}, 144, 44}, // 4, 4: the loose lead weighs nothing
		{"outer spike", [3]int{1728, 1728, 432}, 144, 45},
		{"one lead", [3]int{}, 0, 28},
		{"steep lead", [3]int{}, 0, 20},
		{"path", [3]int{}, 0, 19},
		{"sun", [3]int{}, 0, 96},
		{"bridge", [3]int{608, 128, 96}, 32, 32}, // 19/3, 4/3: between its two panes
		{"arrow", [3]int{910, 1050, 210}, 70, 32},
	}
	for _, c := range cases {
		w := whole[c.window]
		if got := middleOf(w); got != c.middle {
			t.Errorf("%s: MiddleOf = %v; want %v", c.window, got, c.middle)
		}
		if one, most := impl.GlassWeight(w, 1), impl.GlassWeight(w, 20); one != c.weight || most != 20*c.weight {
			t.Errorf("%s: GlassWeight(1) = %d and GlassWeight(20) = %d; want %d and 20 times this", c.window, one, most, c.weight)
		}
		if got := impl.LeadLength(w); got != c.length {
			t.Errorf("%s: LeadLength = %d; want %d", c.window, got, c.length)
		}
	}
}

func TestLeadLengthRoundsEachLead(t *testing.T) {
	cases := []struct {
		name string
		w    impl.Window
		want int
	}{
		{"the least length", drawn([]int{0, 0, 1, 0}, 0, 1), 1},
		{"the root of 2", drawn([]int{0, 0, 1, 1}, 0, 1), 1},
		{"the root of 3 is never met, that of 4 is", drawn([]int{0, 0, 0, 2}, 0, 1), 2},
		{"twice the root of 2", drawn([]int{0, 0, 1, 1, 2, 0}, 0, 1, 1, 2), 2},
		{"just below a square", drawn([]int{0, 0, 2, 2}, 0, 1), 2},
		{"five by three and four", drawn([]int{3, 0, 0, 4}, 0, 1), 5},
		{"the root of 26", drawn([]int{0, 0, 1, 5}, 0, 1), 5},
		{"the root of 800", drawn([]int{0, 20, 20, 0}, 0, 1), 28},
		{"no leads", drawn([]int{0, 0, 5, 5}), 0},
		{"one node", drawn([]int{20, 20}), 0},
		{"apart", drawn([]int{0, 0, 1, 1, 1, 0, 2, 1}, 0, 1, 2, 3), 2},
		{"four leads around a node", crossWindow(), 40},
	}
	for _, c := range cases {
		if got := impl.LeadLength(c.w); got != c.want {
			t.Errorf("%s: LeadLength = %d; want %d", c.name, got, c.want)
		}
	}
}

func TestHingesByHand(t *testing.T) {
	whole := wholeWindows()
	cases := []struct {
		name, window       string
		thick, side, apart int
		force              [2]int
		least              int // the least limit that holds
	}{
		{"a side to the left of the middle", "sample", 1, 0, 8, [2]int{196608, 3072}, 64},
		{"a side in the middle", "sample", 1, 4, 8, [2]int{0, 3072}, 0},
		{"a side to the right of the middle", "sample", 1, 8, 8, [2]int{196608, 3072}, 64},
		{"a side outside the window", "sample", 1, 20, 8, [2]int{786432, 3072}, 256},
		{"next to each other", "sample", 1, 0, 1, [2]int{196608, 384}, 512},
		{"as far apart as can be", "sample", 1, 0, 40, [2]int{196608, 15360}, 13},
		{"thick glass", "sample", 20, 0, 8, [2]int{3932160, 3072}, 1280},
		{"a little to the left", "triangle", 1, 1, 7, [2]int{3888, 756}, 6},
		{"a little to the right", "triangle", 1, 3, 7, [2]int{3888, 756}, 6},
		{"a middle between two numbers", "arrow", 2, 4, 3, [2]int{9800, 630}, 16},
		{"a middle between two numbers, from the right", "arrow", 2, 5, 3, [2]int{19600, 630}, 32},
	}
	for _, c := range cases {
		w := whole[c.window]
		if got := forceOf(w, c.thick, c.side, c.apart); got != c.force {
			t.Errorf("%s: HingeForce = %v; want %v", c.name, got, c.force)
		}
		for _, limit := range []int{c.least, c.least + 1, 1000000} {
			if !impl.HingeHolds(w, c.thick, c.side, c.apart, limit) {
				t.Errorf("%s: the hinge does not hold %d", c.name, limit)
			}
		}
		for _, limit := range append(slices.Clone(limitsNotOk), c.least-1) {
			if impl.HingeHolds(w, c.thick, c.side, c.apart, limit) {
				t.Errorf("%s: the hinge holds with the limit %d", c.name, limit)
			}
		}
	}
}

func TestMiddlesOfRandomWindows(t *testing.T) {
	for name, w := range byName(someWholeWindows(29, 150)) {
		x, y := momentsByHand(w)
		total := totalByStrips(w)
		if got, want := middleOf(w), [3]int{x, y, 3 * total}; got != want {
			t.Errorf("%s: MiddleOf = %v; want %v", name, got, want)
		}
		for thick := 1; thick <= 20; thick++ {
			if got := impl.GlassWeight(w, thick); got != total*thick {
				t.Errorf("%s: GlassWeight(%d) = %d; want %d", name, thick, got, total*thick)
			}
		}
	}
	for name, w := range byName(allWindows()) {
		if got, want := impl.LeadLength(w), lengthByHand(w); got != want {
			t.Errorf("%s: LeadLength = %d; want %d", name, got, want)
		}
	}
}

// isLeftOf reports whether the place x/unit, y/unit is to the left of the way
// from a to b, or on it.
func isLeftOf(a impl.Node, b impl.Node, x int, y int, unit int) bool {
	return (b.X-a.X)*(y-a.Y*unit)-(b.Y-a.Y)*(x-a.X*unit) >= 0
}

func TestTheMiddleLiesOverTheWindow(t *testing.T) {
	for name, w := range byName(someWholeWindows(291, 150)) {
		x, y, unit := impl.MiddleOf(w)
		if unit == 0 {
			if x != 0 || y != 0 || len(facesWithin(w)) > 0 {
				t.Errorf("%s: MiddleOf = %d, %d, 0", name, x, y)
			}
			continue
		}
		for _, a := range w.Nodes {
			for _, b := range w.Nodes {
				isOutside := func(n impl.Node) bool { return !isLeftOf(a, b, n.X, n.Y, 1) }
				if !slices.ContainsFunc(w.Nodes, isOutside) && !isLeftOf(a, b, x, y, unit) {
					t.Errorf("%s: the middle %d/%d, %d/%d is beyond %v and %v", name, x, unit, y, unit, a, b)
				}
			}
		}
	}
}

func TestWiderHingesHaveLessForce(t *testing.T) {
	for name, w := range byName(someWholeWindows(292, 20)) {
		for _, side := range []int{0, 3, 10, 20} {
			force, unit := impl.HingeForce(w, 3, side, 1)
			for apart := 2; apart <= 40; apart++ {
				wider, widerUnit := impl.HingeForce(w, 3, side, apart)
				if force < 0 || unit < 0 || wider < 0 || widerUnit < unit {
					t.Errorf("%s: HingeForce(3, %d) = %d/%d at %d, after %d/%d", name, side, wider, widerUnit, apart, force, unit)
				}
				if force > 0 && wider*unit >= force*widerUnit {
					t.Errorf("%s: HingeForce(3, %d) = %d/%d at %d is not less than %d/%d", name, side, wider, widerUnit, apart, force, unit)
				}
				force, unit = wider, widerUnit
			}
		}
	}
}

func TestForcesOfRandomWindows(t *testing.T) {
	source := rand.New(rand.NewSource(293))
	for name, w := range byName(someWholeWindows(294, 100)) {
		for range 10 {
			thick, side, apart := 1+source.Intn(20), source.Intn(21), 1+source.Intn(40)
			x, _ := momentsByHand(w)
			unit := 3 * totalByStrips(w)
			want := [2]int{totalByStrips(w) * thick * max(x-side*unit, side*unit-x), unit * apart}
			if got := forceOf(w, thick, side, apart); got != want {
				t.Errorf("%s: HingeForce(%d, %d, %d) = %v; want %v", name, thick, side, apart, got, want)
			}
			limit := source.Intn(2000)
			holds := unit > 0 && want[0] <= limit*want[1]
			if got := impl.HingeHolds(w, thick, side, apart, limit); got != holds {
				t.Errorf("%s: HingeHolds(%d, %d, %d, %d) = %v", name, thick, side, apart, limit, got)
			}
		}
	}
}

// checkNoHinge needs an argument that is not valid.
func checkNoHinge(t *testing.T, name string, w impl.Window, thick int, side int, apart int) {
	t.Helper()
	if got := forceOf(w, thick, side, apart); got != [2]int{} {
		t.Errorf("%s: HingeForce(%d, %d, %d) = %v; want zeros", name, thick, side, apart, got)
	}
	for _, limit := range append([]int{0, 1, 1000000}, limitsNotOk...) {
		if impl.HingeHolds(w, thick, side, apart, limit) {
			t.Errorf("%s: HingeHolds(%d, %d, %d, %d) = true", name, thick, side, apart, limit)
		}
	}
}

func TestFramesThatAreNotValid(t *testing.T) {
	sidesNotOk := []int{-1, 21, leastInt, greatestInt}
	for name, w := range byName(wholeWindows()) {
		for _, thick := range thicksNotOk {
			if got := impl.GlassWeight(w, thick); got != -1 {
				t.Errorf("%s: GlassWeight(%d) = %d; want -1", name, thick, got)
			}
			checkNoHinge(t, name, w, thick, 0, 8)
		}
		for _, side := range sidesNotOk {
			checkNoHinge(t, name, w, 1, side, 8)
		}
		for _, apart := range apartsNotOk {
			checkNoHinge(t, name, w, 1, 0, apart)
		}
		if len(facesWithin(w)) == 0 {
			checkNoHinge(t, name, w, 1, 0, 8)
			continue
		}
		// All limits themselves are fine.
		for _, thick := range []int{1, 20} {
			for _, side := range []int{0, 20} {
				for _, apart := range []int{1, 40} {
					if !impl.HingeHolds(w, thick, side, apart, 1000000) {
						t.Errorf("%s: HingeHolds(%d, %d, %d) = false", name, thick, side, apart)
					}
				}
			}
		}
	}
	for name, w := range byName(notWholeWindows()) {
		for _, thick := range append([]int{1, 20}, thicksNotOk...) {
			if got := impl.GlassWeight(w, thick); got != -1 {
				t.Errorf("%s: GlassWeight(%d) = %d; want -1", name, thick, got)
			}
		}
		if got := middleOf(w); got != [3]int{} {
			t.Errorf("%s: MiddleOf = %v; want zeros", name, got)
		}
		checkNoHinge(t, name, w, 1, 0, 8)
	}
	for name, w := range byName(invalidWindows()) {
		if got := impl.LeadLength(w); got != -1 {
			t.Errorf("%s: LeadLength = %d; want -1", name, got)
		}
	}
}

func TestFramesLeaveArgumentsAsTheyAre(t *testing.T) {
	for name, w := range byName(allWindows()) {
		roomy, isUntouched := roomyWindow(w)
		impl.GlassWeight(roomy, 2)
		impl.LeadLength(roomy)
		impl.MiddleOf(roomy)
		impl.HingeForce(roomy, 2, 0, 8)
		impl.HingeHolds(roomy, 2, 0, 8, 100)
		if !isUntouched() {
			t.Errorf("%s: the window is modified", name)
		}
	}
}
