package tests

import (
	"math/rand"
	"slices"
	"testing"

	"loop.example/g03303/impl"
)

// pressuresNotOk and thicksNotOk are just past each limit, and the extreme ints.
var (
	pressuresNotOk = []int{-1, -2, 1001, leastInt, greatestInt}
	thicksNotOk    = []int{0, -1, 21, leastInt, greatestInt}
)

// areaByHand treats the wall around as the window from behind.
func areaByHand(w impl.Window, f int) int {
	area := areaByStrips(w, facesByAngle(w)[f])
	return max(area, -area)
}

func weakByHand(w impl.Window, pressure int, thick int) []int {
	weak := []int{}
	for _, f := range facesWithin(w) {
		if areaByHand(w, f)*pressure > 500*thick*thick {
			weak = append(weak, f)
		}
	}
	return weak
}

func TestLoadOnByHand(t *testing.T) {
	whole := wholeWindows()
	cases := []struct {
		window            string
		f, pressure, want int
	}{
		{"sample", 0, 10, 320}, {"sample", 0, 0, 0}, {"sample", 0, 1, 32}, {"sample", 4, 1000, 32000},
		{"sample", 1, 10, 1280}, // the wall around
		{"one lead", 0, 1000, 0}, {"path", 0, 7, 0},
		{"triangle", 0, 1000, 36000}, {"triangle", 1, 2, 72}, {"full", 0, 1, 50},
		{"inner spike", 0, 3, 432}, {"two cells", 2, 999, 31968},
	}
	for _, c := range cases {
		if got := impl.LoadOn(whole[c.window], c.f, c.pressure); got != c.want {
			t.Errorf("%s: LoadOn(%d, %d) = %d; want %d", c.window, c.f, c.pressure, got, c.want)
		}
	}
}

func TestLoadsAtTheLimit(t *testing.T) {
	whole := wholeWindows()
	// A pane of twice the area 50 has the load 500 under the pressure 10.
	even := drawn([]int{0, 0, 10, 0, 0, 5}, 0, 1, 1, 2, 0, 2)
	largest := drawn([]int{0, 0, 20, 0, 20, 20, 0, 20}, 0, 1, 1, 2, 2, 3, 0, 3)
	cases := []struct {
		name               string
		w                  impl.Window
		f, pressure, thick int
		bears              bool
		least              int
	}{
		{"at the limit", even, 0, 10, 1, true, 1},
		{"just above it", even, 0, 11, 1, false, 2},
		{"at the next limit", even, 0, 40, 2, true, 2},
		{"just above the next limit", even, 0, 41, 2, false, 3},
		{"the wall around at the limit", even, 1, 10, 1, true, 1},
		{"the wall around just above it", even, 1, 11, 1, false, 2},
		{"no wind", largest, 0, 0, 1, true, 1},
		{"the greatest load on the thickest glass", largest, 0, 250, 20, true, 20},
		{"more than the thickest glass bears", largest, 0, 251, 20, false, -1},
		{"much more than it bears", largest, 0, 1000, 20, false, -1},
		{"a triangle of the sample", whole["sample"], 0, 15, 1, true, 1},
		{"a triangle of the sample, just above", whole["sample"], 0, 16, 1, false, 2},
		{"a tree, whose face has no area", whole["one lead"], 0, 1000, 1, true, 1},
	}
	for _, c := range cases {
		if got := impl.BearsLoad(c.w, c.f, c.pressure, c.thick); got != c.bears {
			t.Errorf("%s: BearsLoad = %v", c.name, got)
		}
		if got := impl.LeastThickness(c.w, c.f, c.pressure); got != c.least {
			t.Errorf("%s: LeastThickness = %d; want %d", c.name, got, c.least)
		}
	}
}

func TestWeakFacesByHand(t *testing.T) {
	whole := wholeWindows()
	cases := []struct {
		name, window    string
		pressure, thick int
		want            []int
	}{
		{"all faces", "sample", 100, 2, []int{0, 2, 3, 4}},
		{"all faces, just above the limit", "sample", 63, 2, []int{0, 2, 3, 4}},
		{"no face", "sample", 62, 2, nil},
		{"no wind", "sample", 0, 1, nil},
		{"the greatest pressure on the thickest glass", "sample", 1000, 20, nil},
		{"the greatest pressure on the thinnest glass", "sample", 1000, 1, []int{0, 2, 3, 4}},
		{"a tree", "path", 1000, 1, nil},
		{"the greater one of two faces", "hanging pane", 10, 2, []int{0}},
		{"both of two faces", "hanging pane", 200, 2, []int{0, 2}},
		{"the wall around is not weak", "triangle", 14, 1, []int{0}},
	}
	for _, c := range cases {
		if got := impl.WeakFaces(whole[c.window], c.pressure, c.thick); !slices.Equal(got, c.want) {
			t.Errorf("%s: WeakFaces = %v; want %v", c.name, got, c.want)
		}
	}
}

func TestGreatestWindByHand(t *testing.T) {
	whole := wholeWindows()
	cases := []struct {
		window      string
		thick, want int
	}{
		{"sample", 1, 15}, {"sample", 2, 62}, {"sample", 7, 765}, {"sample", 8, 1000}, {"sample", 20, 1000},
		{"one lead", 1, 1000}, {"path", 20, 1000},
		{"triangle", 1, 13}, {"hanging pane", 2, 4}, {"straight edge", 1, 3}, {"straight edge", 16, 1000}, {"straight edge", 15, 878},
	}
	for _, c := range cases {
		if got := impl.GreatestWind(whole[c.window], c.thick); got != c.want {
			t.Errorf("%s: GreatestWind(%d) = %d; want %d", c.window, c.thick, got, c.want)
		}
	}
}

// checkWind compares all that chapter 28 says of one window under one wind.
func checkWind(t *testing.T, name string, w impl.Window, pressure int) {
	t.Helper()
	for f := range facesByAngle(w) {
		load := areaByHand(w, f) * pressure
		if got := impl.LoadOn(w, f, pressure); got != load {
			t.Errorf("%s: LoadOn(%d, %d) = %d; want %d", name, f, pressure, got, load)
		}
		least := -1
		for thick := 20; thick >= 1; thick-- {
			bears := load <= 500*thick*thick
			if got := impl.BearsLoad(w, f, pressure, thick); got != bears {
				t.Errorf("%s: BearsLoad(%d, %d, %d) = %v", name, f, pressure, thick, got)
			}
			if bears {
				least = thick
			}
		}
		if got := impl.LeastThickness(w, f, pressure); got != least {
			t.Errorf("%s: LeastThickness(%d, %d) = %d; want %d", name, f, pressure, got, least)
		}
	}
	for thick := 1; thick <= 20; thick += 3 {
		if got, want := impl.WeakFaces(w, pressure, thick), weakByHand(w, pressure, thick); !slices.Equal(got, want) {
			t.Errorf("%s: WeakFaces(%d, %d) = %v; want %v", name, pressure, thick, got, want)
		}
	}
}

func TestThePaneOfTheLeastThicknessBearsTheWind(t *testing.T) {
	source := rand.New(rand.NewSource(28))
	for name, w := range byName(someWholeWindows(281, 60)) {
		for _, pressure := range []int{0, 1000, source.Intn(1001), source.Intn(101)} {
			checkWind(t, name, w, pressure)
			for f := range facesByAngle(w) {
				least := impl.LeastThickness(w, f, pressure)
				if least > 0 && (!impl.BearsLoad(w, f, pressure, least) || impl.BearsLoad(w, f, pressure, least-1)) {
					t.Errorf("%s: LeastThickness(%d, %d) = %d is not the least", name, f, pressure, least)
				}
				if least < 0 && impl.BearsLoad(w, f, pressure, 20) {
					t.Errorf("%s: LeastThickness(%d, %d) = %d, but 20 bears it", name, f, pressure, least)
				}
			}
		}
	}
}

func TestAboveTheGreatestWindAFaceIsWeak(t *testing.T) {
	for name, w := range someWholeWindows(282, 60) {
		for thick := 1; thick <= 20; thick++ {
			wind := impl.GreatestWind(w, thick)
			if wind < 0 || wind > 1000 || len(weakByHand(w, wind, thick)) > 0 || len(impl.WeakFaces(w, wind, thick)) > 0 {
				t.Errorf("%s: GreatestWind(%d) = %d is too much", name, thick, wind)
			}
			if wind < 1000 && (len(weakByHand(w, wind+1, thick)) == 0 || len(impl.WeakFaces(w, wind+1, thick)) == 0) {
				t.Errorf("%s: GreatestWind(%d) = %d is too little", name, thick, wind)
			}
		}
	}
}

// checkNoLoad needs a face that is not there, or a pressure out of range.
func checkNoLoad(t *testing.T, name string, w impl.Window, f int, pressure int) {
	t.Helper()
	if load, least := impl.LoadOn(w, f, pressure), impl.LeastThickness(w, f, pressure); load != -1 || least != -1 {
		t.Errorf("%s: LoadOn(%d, %d) = %d and LeastThickness = %d; want -1", name, f, pressure, load, least)
	}
	for _, thick := range []int{0, 1, 20, 21} {
		if impl.BearsLoad(w, f, pressure, thick) {
			t.Errorf("%s: BearsLoad(%d, %d, %d) = true", name, f, pressure, thick)
		}
	}
}

func TestFacesAndWindsThatAreNotThere(t *testing.T) {
	for name, w := range wholeWindows() {
		for _, f := range wrongIndices(len(facesByAngle(w))) {
			for _, pressure := range []int{-1, 0, 10, 1000} {
				checkNoLoad(t, name, w, f, pressure)
			}
		}
		for _, pressure := range pressuresNotOk {
			for f := range facesByAngle(w) {
				checkNoLoad(t, name, w, f, pressure)
			}
			if got := impl.WeakFaces(w, pressure, 1); len(got) != 0 {
				t.Errorf("%s: WeakFaces(%d, 1) = %v; want nil", name, pressure, got)
			}
		}
		for _, thick := range thicksNotOk {
			for f := range facesByAngle(w) {
				if impl.BearsLoad(w, f, 0, thick) || impl.BearsLoad(w, f, 1, thick) {
					t.Errorf("%s: BearsLoad(%d) with the thickness %d = true", name, f, thick)
				}
			}
			if weak, wind := impl.WeakFaces(w, 1000, thick), impl.GreatestWind(w, thick); len(weak) != 0 || wind != -1 {
				t.Errorf("%s: WeakFaces with the thickness %d = %v and GreatestWind = %d", name, thick, weak, wind)
			}
		}
	}
	for name, w := range notWholeWindows() {
		for f := -1; f <= 3; f++ {
			checkNoLoad(t, name, w, f, 10)
		}
		for _, thick := range []int{1, 2, 20} {
			if weak, wind := impl.WeakFaces(w, 1000, thick), impl.GreatestWind(w, thick); len(weak) != 0 || wind != -1 {
				t.Errorf("%s: WeakFaces = %v and GreatestWind = %d", name, weak, wind)
			}
		}
	}
}

func TestWindLeavesWindowsAsTheyAre(t *testing.T) {
	for name, w := range wholeWindows() {
		roomy, isUntouched := roomyWindow(w)
		checkFreshOf(t, name+", WeakFaces", -7, func() []int { return impl.WeakFaces(roomy, 1000, 1) })
		impl.BearsLoad(roomy, 0, 10, 1)
		load, least, wind := impl.LoadOn(roomy, 0, 10), impl.LeastThickness(roomy, 0, 10), impl.GreatestWind(roomy, 3)
		if impl.LoadOn(roomy, 0, 10) != load || impl.LeastThickness(roomy, 0, 10) != least || impl.GreatestWind(roomy, 3) != wind {
			t.Errorf("%s: a second call returns something else", name)
		}
		if !isUntouched() {
			t.Errorf("%s is modified", name)
		}
	}
}
