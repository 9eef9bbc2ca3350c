package tests

import (
	"slices"
	"testing"

	"loop.example/g03303/impl"
)

// divided is a square with a diagonal: both panes have the same height and the
// same least X.
func divided(leads ...int) impl.Window { return drawn([]int{0, 0, 8, 0, 8, 8, 0, 8}, leads...) }

func boxByHand(w impl.Window, f int) (impl.Node, impl.Node) {
	return boxAround(w, nodesAlong(w, facesByAngle(w)[f]))
}

// isReadBefore compares two different faces.
func isReadBefore(w impl.Window, f int, g int) bool {
	leastOfF, greatestOfF := boxByHand(w, f)
	leastOfG, greatestOfG := boxByHand(w, g)
	if greatestOfF.Y != greatestOfG.Y {
		return greatestOfF.Y > greatestOfG.Y
	}
	if leastOfF.X != leastOfG.X {
		return leastOfF.X < leastOfG.X
	}
	return f < g
}

// readByHand puts each face at the place that has as many before it as come
// before the face.
func readByHand(w impl.Window) []int {
	within := facesWithin(w)
	order := make([]int, len(within))
	for _, f := range within {
		before := 0
		for _, g := range within {
			if g != f && isReadBefore(w, g, f) {
				before++
			}
		}
		order[before] = f
	}
	return order
}

// labelByHand counts the heights above the face, and the faces before it in its
// row.
func labelByHand(w impl.Window, f int) string {
	_, greatest := boxByHand(w, f)
	heights := map[int]bool{}
	number := 1
	for _, g := range facesWithin(w) {
		_, other := boxByHand(w, g)
		if other.Y > greatest.Y {
			heights[other.Y] = true
		}
		if other.Y == greatest.Y && g != f && isReadBefore(w, g, f) {
			number++
		}
	}
	return string("abcdefghijkl"[len(heights)]) + impl.FormatInt(number)
}

func TestNumbersByHand(t *testing.T) {
	whole := wholeWindows()
	cases := []struct {
		name   string
		w      impl.Window
		order  []int
		labels []string
	}{
		{"sample", whole["sample"], []int{3, 4, 2, 0}, []string{"a1", "a2", "a3", "b1"}},
		{"one pane", whole["triangle"], []int{0}, []string{"a1"}},
		{"one pane behind the wall", whole["backwards"], []int{1}, []string{"a1"}},
		{"a tree", whole["path"], nil, nil},
		{"side by side", whole["two cells"], []int{0, 2}, []string{"a1", "a2"}},
		{"the same height and the same least X", divided(0, 1, 1, 2, 2, 3, 0, 3, 0, 2), []int{0, 2}, []string{"a1", "a2"}},
		{"the same, with the upper one first", divided(2, 3, 0, 3, 0, 1, 1, 2, 0, 2), []int{0, 2}, []string{"a1", "a2"}},
		{"the same, with the wall first", divided(0, 3, 0, 2, 0, 1, 1, 2, 2, 3), []int{1, 2}, []string{"a1", "a2"}},
		{"one in another", whole["hanging pane"], []int{0, 2}, []string{"a1", "b1"}},
		{"three by two cells", fullWindow(), readByHand(fullWindow()), []string{"a1", "a2", "a3", "b1", "b2", "b3", "b4", "b5", "b6"}},
	}
	for _, c := range cases {
		if got := impl.ReadingOrder(c.w); !slices.Equal(got, c.order) {
			t.Errorf("%s: ReadingOrder = %v; want %v", c.name, got, c.order)
		}
		for i, f := range c.order {
			if number, label := impl.NumberOf(c.w, f), impl.LabelOf(c.w, f); number != i+1 || label != c.labels[i] {
				t.Errorf("%s: face %d has the number %d and the label %s; want %d and %s", c.name, f, number, label, i+1, c.labels[i])
			}
		}
	}
}

func TestEveryPaneIsFoundByItsNumberAndItsLabel(t *testing.T) {
	for name, w := range byName(someWholeWindows(30, 150)) {
		order := readByHand(w)
		if got := impl.ReadingOrder(w); !slices.Equal(got, order) {
			t.Errorf("%s: ReadingOrder = %v; want %v", name, got, order)
		}
		labels := map[string]bool{}
		for i, f := range order {
			number, label := impl.NumberOf(w, f), impl.LabelOf(w, f)
			if number != i+1 || label != labelByHand(w, f) {
				t.Errorf("%s: face %d has the number %d and the label %q; want %d and %q", name, f, number, label, i+1, labelByHand(w, f))
			}
			if g, h := impl.FaceWithNumber(w, number), impl.FaceWithLabel(w, label); g != f || h != f {
				t.Errorf("%s: FaceWithNumber(%d) = %d and FaceWithLabel(%q) = %d; want %d", name, number, g, label, h, f)
			}
			labels[label] = true
		}
		if len(labels) != len(order) {
			t.Errorf("%s: two faces have the same label: %v", name, labels)
		}
		for _, n := range append(wrongIndices(0), 0, len(order)+1, len(order)+2) {
			if got := impl.FaceWithNumber(w, n); got != -1 && (n < 1 || n > len(order)) {
				t.Errorf("%s: FaceWithNumber(%d) = %d; want -1", name, n, got)
			}
		}
		checkOtherLabels(t, name, w, labels)
	}
}

// checkOtherLabels tries all short labels and some odd ones.
func checkOtherLabels(t *testing.T, name string, w impl.Window, labels map[string]bool) {
	t.Helper()
	others := []string{"", "a", "b", "1", "0", "A1", "a01", "a+1", "a 1", " a1", "a1 ", "a1\n", "a-1", "aa1", "a11", "a1a", "1a", "ä1", "{1", "`1", "@1", "\x00", "a\xff", "a١"}
	for row := 'a'; row <= 'z'; row++ {
		for number := range 13 {
			others = append(others, string(row)+impl.FormatInt(number))
		}
	}
	for _, label := range others {
		if got := impl.FaceWithLabel(w, label); got != -1 && !labels[label] {
			t.Errorf("%s: FaceWithLabel(%q) = %d; want -1", name, label, got)
		}
	}
}

func TestFacesWithoutNumbers(t *testing.T) {
	for name, w := range byName(wholeWindows()) {
		for _, f := range append(wrongIndices(len(facesByAngle(w))), wallAround(w)) {
			if number, label := impl.NumberOf(w, f), impl.LabelOf(w, f); number != 0 || label != "" {
				t.Errorf("%s: face %d has the number %d and the label %q", name, f, number, label)
			}
		}
	}
	for name, w := range byName(notWholeWindows()) {
		if got := impl.ReadingOrder(w); len(got) != 0 {
			t.Errorf("%s: ReadingOrder = %v; want nil", name, got)
		}
		for i := -1; i <= 12; i++ {
			if number, label := impl.NumberOf(w, i), impl.LabelOf(w, i); number != 0 || label != "" {
				t.Errorf("%s: face %d has the number %d and the label %q", name, i, number, label)
			}
			if got := impl.FaceWithNumber(w, i); got != -1 {
				t.Errorf("%s: FaceWithNumber(%d) = %d; want -1", name, i, got)
			}
		}
		checkOtherLabels(t, name, w, nil)
	}
}

func TestManyRowsAndLongRows(t *testing.T) {
	tower := drawn([]int{0, 0, 1, 1, 0, 2, 1, 3, 0, 4, 1, 5, 0, 6, 1, 7, 0, 8, 1, 9, 0, 10},
		0, 1, 1, 2, 2, 3, 3, 4, 4, 5, 5, 6, 6, 7, 7, 8, 8, 9, 0, 2, 1, 3, 2, 4, 3, 5, 4, 6, 5, 7, 6, 8, 7, 9, 8, 10)
	if got := impl.ReadingOrder(tower); len(got) != 8 || impl.LabelOf(tower, got[7]) != "h1" || impl.FaceWithLabel(tower, "h1") != got[7] {
		t.Errorf("ReadingOrder of a tower = %v, the last one with the label %q", got, impl.LabelOf(tower, got[7]))
	}
	fan := drawn([]int{0, 20, 0, 0, 2, 0, 4, 0, 6, 0, 8, 0, 10, 0, 12, 0, 14, 0, 16, 0, 18, 0},
		0, 1, 0, 2, 0, 3, 0, 4, 0, 5, 0, 6, 0, 7, 0, 8, 0, 9, 0, 10, 1, 2, 2, 3, 3, 4, 4, 5, 5, 6, 6, 7, 7, 8, 8, 9, 9, 10)
	order := impl.ReadingOrder(fan)
	if !slices.Equal(order, readByHand(fan)) || !slices.IsSorted(order) {
		t.Errorf("ReadingOrder of a fan = %v", order)
	}
	for i, f := range order {
		if label := "a" + impl.FormatInt(i+1); impl.LabelOf(fan, f) != label || impl.FaceWithLabel(fan, label) != f {
			t.Errorf("face %d of a fan has the label %q", f, impl.LabelOf(fan, f))
		}
	}
}

func TestNumbersLeaveArgumentsAsTheyAre(t *testing.T) {
	for name, w := range byName(wholeWindows()) {
		roomy, isUntouched := roomyWindow(w)
		checkFresh(t, name+", ReadingOrder", func() [][]int { return [][]int{impl.ReadingOrder(roomy)} })
		impl.NumberOf(roomy, 0)
		impl.FaceWithNumber(roomy, 1)
		impl.LabelOf(roomy, 0)
		impl.FaceWithLabel(roomy, "a1")
		if !isUntouched() {
			t.Errorf("%s: the window is modified, or a result shares its memory", name)
		}
	}
}
