package tests

import (
	"slices"
	"testing"

	"loop.example/g03303/impl"
)

// sidesByAngle returns the faces to the left of both darts of each lead.
func sidesByAngle(w impl.Window) [][2]int {
	faces := facesByAngle(w)
	sides := [][2]int{}
	for k := range w.Leads {
		sides = append(sides, [2]int{faceOfDart(faces, 2*k), faceOfDart(faces, 2*k+1)})
	}
	return sides
}

// leadsBetween returns the leads with f on one side and g on the other one.
func leadsBetween(sides [][2]int, f int, g int) []int {
	leads := []int{}
	for k, s := range sides {
		if s[0] == f && s[1] == g || s[0] == g && s[1] == f {
			leads = append(leads, k)
		}
	}
	return leads
}

// facesBeside returns the other faces that share a lead with f.
func facesBeside(sides [][2]int, f int) []int {
	faces := []int{}
	for _, s := range sides {
		for i := range 2 {
			if s[i] == f && s[1-i] != f && !slices.Contains(faces, s[1-i]) {
				faces = append(faces, s[1-i])
			}
		}
	}
	slices.Sort(faces)
	return faces
}

func TestSidesByHand(t *testing.T) {
	sample := impl.SampleWindow()
	want := [][2]int{{0, 1}, {2, 1}, {3, 1}, {1, 4}, {4, 0}, {0, 2}, {2, 3}, {3, 4}}
	for k, sides := range want {
		if left, right := impl.SidesOf(sample, k); left != sides[0] || right != sides[1] {
			t.Errorf("SidesOf(%d) = %d, %d; want %v", k, left, right, sides)
		}
	}
	for name, k := range map[string]int{"one lead": 0, "inner spike": 3, "hanging pane": 0} {
		if left, right := impl.SidesOf(wholeWindows()[name], k); left != 0 || right != 0 {
			t.Errorf("%s: SidesOf(%d) = %d, %d; want 0 twice", name, k, left, right)
		}
	}
}

func TestSharedLeadsByHand(t *testing.T) {
	whole := wholeWindows()
	cases := []struct {
		window string
		f, g   int
		want   []int
	}{
		{"sample", 0, 1, []int{0}}, {"sample", 1, 0, []int{0}}, {"sample", 0, 3, nil}, {"sample", 0, 2, []int{5}}, {"sample", 0, 0, nil},
		{"triangle", 0, 1, []int{0, 1, 2}},
		{"bent border", 0, 2, []int{6, 7}}, {"bent border", 2, 0, []int{6, 7}}, {"bent border", 1, 2, []int{1, 2, 3}}, {"bent border", 0, 1, []int{0, 4, 5}},
		{"straight line", 0, 2, []int{1, 5, 6}}, {"straight line", 0, 1, []int{0, 7}},
		{"one lead", 0, 0, []int{0}}, {"path", 0, 0, []int{0, 1, 2}},
		{"inner spike", 0, 0, []int{3}}, {"inner spike", 1, 1, nil}, {"inner spike", 0, 1, []int{0, 1, 2}},
		{"outer spike", 0, 0, nil}, {"outer spike", 1, 1, []int{3}},
		{"bow tie", 1, 2, nil}, {"bow tie", 0, 1, []int{0, 1, 2}},
	}
	for _, c := range cases {
		if got := impl.SharedLeads(whole[c.window], c.f, c.g); !slices.Equal(got, c.want) {
			t.Errorf("%s: SharedLeads(%d, %d) = %v; want %v", c.window, c.f, c.g, got, c.want)
		}
		if got := impl.AreBeside(whole[c.window], c.f, c.g); got != (c.f != c.g && len(c.want) > 0) {
			t.Errorf("%s: AreBeside(%d, %d) = %v", c.window, c.f, c.g, got)
		}
	}
}

func TestDegreesOfFacesByHand(t *testing.T) {
	for window, want := range map[string][]int{
		"sample": {3, 4, 3, 3, 3}, "one lead": {0}, "sun": {0}, "triangle": {3, 3}, "inner spike": {3, 3}, "outer spike": {3, 3},
		"bent border": {5, 6, 5}, "pane in corner": {7, 4, 3}, "hanging pane": {7, 4, 3}, "bridge": {3, 6, 3},
	} {
		for f, degree := range want {
			if got := impl.DualDegree(wholeWindows()[window], f); got != degree {
				t.Errorf("%s: DualDegree(%d) = %d; want %d", window, f, got, degree)
			}
		}
	}
}

func TestFacesAroundNodesByHand(t *testing.T) {
	whole := wholeWindows()
	cases := []struct {
		window string
		k      int
		want   []int
	}{
		{"sample", 4, []int{3, 4, 0, 2}}, {"sample", 0, []int{0, 4, 1}},
		{"one lead", 0, []int{0}}, {"one lead", 1, []int{0}}, {"sun", 0, []int{0, 0, 0, 0, 0, 0, 0, 0}}, {"sun", 4, []int{0}},
		{"inner spike", 0, []int{0, 0, 1}}, {"inner spike", 3, []int{0}}, {"bow tie", 0, []int{0, 1, 0, 2}},
	}
	for _, c := range cases {
		if got := impl.FacesAround(whole[c.window], c.k); !slices.Equal(got, c.want) {
			t.Errorf("%s: FacesAround(%d) = %v; want %v", c.window, c.k, got, c.want)
		}
	}
}

// checkSides compares all that chapter 9 says of one whole window.
func checkSides(t *testing.T, name string, w impl.Window) {
	t.Helper()
	faces, sides := facesByAngle(w), sidesByAngle(w)
	for k, want := range sides {
		if left, right := impl.SidesOf(w, k); left != want[0] || right != want[1] {
			t.Errorf("%s: SidesOf(%d) = %d, %d; want %v", name, k, left, right, want)
		}
	}
	for f := range faces {
		beside := facesBeside(sides, f)
		if got := impl.BesideOf(w, f); !slices.Equal(got, beside) {
			t.Errorf("%s: BesideOf(%d) = %v; want %v", name, f, got, beside)
		}
		degree := 0
		for g := range faces {
			shared := leadsBetween(sides, f, g)
			if got := impl.SharedLeads(w, f, g); !slices.Equal(got, shared) {
				t.Errorf("%s: SharedLeads(%d, %d) = %v; want %v", name, f, g, got, shared)
			}
			if got := impl.AreBeside(w, f, g); got != slices.Contains(beside, g) || got != impl.AreBeside(w, g, f) {
				t.Errorf("%s: AreBeside(%d, %d) = %v", name, f, g, got)
			}
			if g != f {
				degree += len(shared)
			}
		}
		if got := impl.DualDegree(w, f); got != degree {
			t.Errorf("%s: DualDegree(%d) = %d; want %d", name, f, got, degree)
		}
	}
	for k := range w.Nodes {
		want := []int{}
		for _, d := range dartsByAngle(w, k) {
			want = append(want, faceOfDart(faces, d))
		}
		if got := impl.FacesAround(w, k); !slices.Equal(got, want) {
			t.Errorf("%s: FacesAround(%d) = %v; want %v", name, k, got, want)
		}
	}
}

func TestToBeBesideIsMutual(t *testing.T) {
	for name, w := range someWholeWindows(9, 200) {
		checkSides(t, name, w)
	}
}

func checkNoFaceBeside(t *testing.T, name string, w impl.Window, f int) {
	t.Helper()
	if got := impl.BesideOf(w, f); len(got) != 0 {
		t.Errorf("%s: BesideOf(%d) = %v; want nil", name, f, got)
	}
	if got := impl.DualDegree(w, f); got != -1 {
		t.Errorf("%s: DualDegree(%d) = %d; want -1", name, f, got)
	}
	for _, p := range [][2]int{{f, 0}, {0, f}, {f, f}} {
		if got := impl.SharedLeads(w, p[0], p[1]); len(got) != 0 {
			t.Errorf("%s: SharedLeads(%v) = %v; want nil", name, p, got)
		}
		if impl.AreBeside(w, p[0], p[1]) {
			t.Errorf("%s: AreBeside(%v) = true", name, p)
		}
	}
}

func checkNoSides(t *testing.T, name string, w impl.Window, k int) {
	t.Helper()
	if left, right := impl.SidesOf(w, k); left != -1 || right != -1 {
		t.Errorf("%s: SidesOf(%d) = %d, %d; want -1 twice", name, k, left, right)
	}
}

func TestSidesThatAreNotThere(t *testing.T) {
	for name, w := range wholeWindows() {
		for _, f := range wrongIndices(len(facesByAngle(w))) {
			checkNoFaceBeside(t, name, w, f)
		}
		for _, k := range wrongIndices(len(w.Leads)) {
			checkNoSides(t, name, w, k)
		}
		for _, k := range wrongIndices(len(w.Nodes)) {
			if got := impl.FacesAround(w, k); len(got) != 0 {
				t.Errorf("%s: FacesAround(%d) = %v; want nil", name, k, got)
			}
		}
	}
}

func TestOnlyWholeWindowsHaveSides(t *testing.T) {
	for name, w := range notWholeWindows() {
		for i := -1; i <= 12; i++ {
			checkNoFaceBeside(t, name, w, i)
			checkNoSides(t, name, w, i)
			if got := impl.FacesAround(w, i); len(got) != 0 {
				t.Errorf("%s: FacesAround(%d) = %v; want nil", name, i, got)
			}
		}
	}
}

func TestSidesLeaveWindowsAsTheyAre(t *testing.T) {
	for name, w := range wholeWindows() {
		roomy, isUntouched := roomyWindow(w)
		for i := range max(len(w.Nodes), len(facesByAngle(w))) {
			checkFresh(t, name+", chapter 9", func() [][]int {
				return [][]int{impl.SharedLeads(roomy, i, 0), impl.BesideOf(roomy, i), impl.FacesAround(roomy, i)}
			})
			impl.SidesOf(roomy, i)
			impl.AreBeside(roomy, i, 0)
			impl.DualDegree(roomy, i)
		}
		if !isUntouched() {
			t.Errorf("%s: the argument is modified, or a result shares its memory", name)
		}
	}
}
