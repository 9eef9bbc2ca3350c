package tests

import (
	"slices"
	"testing"

	"loop.example/g03303/impl"
)

// facesByAngle takes the darts in order and the walk of each one that is not
// in a walk yet.
func facesByAngle(w impl.Window) [][]int {
	faces := [][]int{}
	for d := range 2 * len(w.Leads) {
		if !slices.ContainsFunc(faces, func(walk []int) bool { return slices.Contains(walk, d) }) {
			faces = append(faces, walkByAngle(w, d))
		}
	}
	return faces
}

// faceOfDart needs a dart that is there.
func faceOfDart(faces [][]int, d int) int {
	return slices.IndexFunc(faces, func(walk []int) bool { return slices.Contains(walk, d) })
}

// wallAround looks below the lowest node: the wall is to the left of the last
// dart there.
func wallAround(w impl.Window) int {
	lowest := 0
	for k, n := range w.Nodes {
		if m := w.Nodes[lowest]; n.Y < m.Y || n.Y == m.Y && n.X < m.X {
			lowest = k
		}
	}
	darts := dartsByAngle(w, lowest)
	return faceOfDart(facesByAngle(w), darts[len(darts)-1])
}

func TestIsWhole(t *testing.T) {
	for name, w := range wholeWindows() {
		if !impl.IsWhole(w) {
			t.Errorf("%s: IsWhole = false", name)
		}
	}
	for name, w := range notWholeWindows() {
		if impl.IsWhole(w) {
			t.Errorf("%s: IsWhole = true", name)
		}
	}
}

func TestFacesByHand(t *testing.T) {
	whole := wholeWindows()
	cases := []struct {
		name  string
		w     impl.Window
		faces [][]int
		outer int
		areas []int
	}{
		{"the sample", impl.SampleWindow(), [][]int{{0, 10, 9}, {1, 6, 5, 3}, {2, 12, 11}, {4, 14, 13}, {7, 8, 15}}, 1, []int{32, 128, 32, 32, 32}},
		{"one lead", whole["one lead"], [][]int{{0, 1}}, 0, []int{0}},
		{"a path", whole["path"], [][]int{{0, 4, 5, 1, 3, 2}}, 0, []int{0}},
		{"one pane", whole["triangle"], [][]int{{0, 2, 5}, {1, 4, 3}}, 1, []int{36, 36}},
		{"one pane drawn backwards", whole["backwards"], [][]int{{0, 2, 5}, {1, 4, 3}}, 0, []int{36, 36}},
		{"two cells", whole["two cells"], [][]int{{0, 12, 8, 11}, {1, 10, 9, 7, 5, 3}, {2, 4, 6, 13}}, 1, []int{32, 64, 32}},
		{"a loose lead within", whole["inner spike"], [][]int{{0, 2, 5, 6, 7}, {1, 4, 3}}, 1, []int{144, 144}},
		{"a pane in a corner of another one", whole["pane in corner"], [][]int{{0, 2, 4, 7, 12, 11, 9}, {1, 6, 5, 3}, {8, 10, 13}}, 1, []int{452, 512, 60}},
	}
	for _, c := range cases {
		if got := impl.FacesOf(c.w); !sameLists(got, c.faces) {
			t.Errorf("%s: FacesOf = %v; want %v", c.name, got, c.faces)
		}
		if got := impl.OuterFace(c.w); got != c.outer {
			t.Errorf("%s: OuterFace = %d; want %d", c.name, got, c.outer)
		}
		for f, want := range c.areas {
			if got := impl.AreaOf(c.w, f); got != want {
				t.Errorf("%s: AreaOf(%d) = %d; want %d", c.name, f, got, want)
			}
		}
		if got := impl.TotalArea(c.w); got != c.areas[c.outer] {
			t.Errorf("%s: TotalArea = %d; want %d", c.name, got, c.areas[c.outer])
		}
	}
}

// checkFaces compares all that chapter 7 says of one whole window, and its promise.
func checkFaces(t *testing.T, name string, w impl.Window) {
	t.Helper()
	faces, outer := facesByAngle(w), wallAround(w)
	if got := impl.FacesOf(w); !sameLists(got, faces) {
		t.Errorf("%s: FacesOf = %v; want %v", name, got, faces)
	}
	for d := range 2 * len(w.Leads) {
		if got := impl.FaceAt(w, d); got != faceOfDart(faces, d) {
			t.Errorf("%s: FaceAt(%d) = %d; want %d", name, d, got, faceOfDart(faces, d))
		}
	}
	if got := impl.OuterFace(w); got != outer {
		t.Errorf("%s: OuterFace = %d; want %d", name, got, outer)
	}
	panes := 0
	for f, walk := range faces {
		area := areaByStrips(w, walk)
		if f == outer {
			area = -area
		} else {
			panes += impl.AreaOf(w, f)
		}
		if got := impl.AreaOf(w, f); got != area {
			t.Errorf("%s: AreaOf(%d) = %d; want %d", name, f, got, area)
		}
	}
	if got := impl.TotalArea(w); got != panes || got != impl.AreaOf(w, outer) {
		t.Errorf("%s: TotalArea = %d, but all others together are %d", name, got, panes)
	}
}

func TestOneFaceIsTheWallAround(t *testing.T) {
	for name, w := range someWholeWindows(7, 300) {
		checkFaces(t, name, w)
	}
}

func TestTreesHaveTheWallAlone(t *testing.T) {
	for _, name := range []string{"one lead", "steep lead", "path", "sun"} {
		w := wholeWindows()[name]
		if len(impl.FacesOf(w)) != 1 || impl.OuterFace(w) != 0 || impl.AreaOf(w, 0) != 0 || impl.TotalArea(w) != 0 {
			t.Errorf("%s has more than the wall around", name)
		}
	}
}

func TestFacesAndDartsThatAreNotThere(t *testing.T) {
	for name, w := range wholeWindows() {
		for _, f := range wrongIndices(len(facesByAngle(w))) {
			if got := impl.AreaOf(w, f); got != -1 {
				t.Errorf("%s: AreaOf(%d) = %d; want -1", name, f, got)
			}
		}
		for _, d := range wrongIndices(2 * len(w.Leads)) {
			if got := impl.FaceAt(w, d); got != -1 {
				t.Errorf("%s: FaceAt(%d) = %d; want -1", name, d, got)
			}
		}
	}
}

func TestOnlyWholeWindowsHaveFaces(t *testing.T) {
	for name, w := range notWholeWindows() {
		if got := impl.FacesOf(w); len(got) != 0 {
			t.Errorf("%s: FacesOf = %v; want nil", name, got)
		}
		if outer, area := impl.OuterFace(w), impl.TotalArea(w); outer != -1 || area != -1 {
			t.Errorf("%s: OuterFace = %d and TotalArea = %d; want -1", name, outer, area)
		}
		for i := -1; i <= 12; i++ {
			if face, area := impl.FaceAt(w, i), impl.AreaOf(w, i); face != -1 || area != -1 {
				t.Errorf("%s: FaceAt(%d) = %d and AreaOf = %d; want -1", name, i, face, area)
			}
		}
	}
}

func TestFacesLeaveWindowsAsTheyAre(t *testing.T) {
	for name, w := range allWindows() {
		roomy, isUntouched := roomyWindow(w)
		checkFresh(t, name+", FacesOf", func() [][]int { return impl.FacesOf(roomy) })
		impl.IsWhole(roomy)
		impl.OuterFace(roomy)
		impl.TotalArea(roomy)
		for i := range 2 * len(w.Leads) {
			impl.FaceAt(roomy, i)
			impl.AreaOf(roomy, i)
		}
		if !isUntouched() {
			t.Errorf("%s: the argument is modified, or a result shares its memory", name)
		}
	}
}
