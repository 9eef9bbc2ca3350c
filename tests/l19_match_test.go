package tests

import (
	"math/rand"
	"slices"
	"testing"

	"loop.example/g03303/impl"
)

func placesByHand(w impl.Window, s []impl.Node) []int {
	places := []int{}
	for f := range facesByAngle(w) {
		if shape := shapeByHand(w, f); len(shape) > 0 && areAlikeByHand(s, shape) {
			places = append(places, f)
		}
	}
	return places
}

// matchByHand goes through all lists, in lexicographic order, with -1 after all
// panes, and keeps the first one with the most panes.
func matchByHand(places [][]int) []int {
	best, most := []int{}, -1
	list := make([]int, len(places))
	var fill func(i int, count int)
	fill = func(i int, count int) {
		if i == len(places) {
			if count > most {
				best, most = slices.Clone(list), count
			}
			return
		}
		for _, f := range places[i] {
			if !slices.Contains(list[:i], f) {
				list[i] = f
				fill(i+1, count+1)
			}
		}
		list[i] = -1
		fill(i+1, count)
	}
	fill(0, 0)
	return best
}

func lackingByHand(places [][]int) []int {
	for number := 1; number < 1<<len(places); number++ {
		together := map[int]bool{}
		for _, i := range listOf(number) {
			for _, f := range places[i] {
				together[f] = true
			}
		}
		if len(together) < len(listOf(number)) {
			return listOf(number)
		}
	}
	return nil
}

// checkMatch compares all that chapter 19 says of some shapes.
func checkMatch(t *testing.T, name string, w impl.Window, shapes [][]impl.Node) {
	t.Helper()
	places := [][]int{}
	for _, s := range shapes {
		places = append(places, placesByHand(w, s))
	}
	got, lacking := impl.MatchPanes(w, shapes), impl.LackingShapes(w, shapes)
	if want := matchByHand(places); !slices.Equal(got, want) {
		t.Errorf("%s: MatchPanes(%v) = %v; want %v", name, shapes, got, want)
	}
	if want := lackingByHand(places); !slices.Equal(lacking, want) {
		t.Errorf("%s: LackingShapes(%v) = %v; want %v", name, shapes, lacking, want)
	}
	if isComplete := impl.CountMatched(got) == len(shapes); isComplete != (len(lacking) == 0) {
		t.Errorf("%s: MatchPanes(%v) = %v, but LackingShapes = %v", name, shapes, got, lacking)
	}
}

// someShapes takes shapes of panes of the window, some of them turned or
// mirrored, and now and then a shape that is nothing.
func someShapes(source *rand.Rand, w impl.Window, count int) [][]impl.Node {
	known := [][]impl.Node{{}, placesOf(0, 0, 1, 0, 0, 1), placesOf(0, 0, 21, 0, 0, 1)}
	for f := range facesByAngle(w) {
		if s := shapeByHand(w, f); len(s) > 0 {
			known = append(known, s, s, settledByHand(turnedOnBoard(s)), mirrorByHand(s))
		}
	}
	shapes := [][]impl.Node{}
	for range count {
		shapes = append(shapes, known[source.Intn(len(known))])
	}
	return shapes
}

func TestMatchPanesByHand(t *testing.T) {
	whole := wholeWindows()
	roof, hook, wrong := placesOf(0, 0, 8, 0, 4, 4), placesOf(0, 0, 4, 0, 0, 4), placesOf(0, 0, 7, 0, 4, 4)
	cell := placesOf(0, 0, 4, 0, 4, 4, 0, 4)
	cases := []struct {
		name, window string
		shapes       [][]impl.Node
		panes        []int
		lacking      []int
	}{
		{"no shapes", "sample", nil, nil, nil},
		{"one shape", "sample", [][]impl.Node{roof}, []int{0}, nil},
		{"equal shapes", "sample", [][]impl.Node{roof, roof, roof, roof}, []int{0, 2, 3, 4}, nil},
		{"more shapes than panes", "sample", [][]impl.Node{roof, roof, roof, roof, roof}, []int{0, 2, 3, 4, -1}, []int{0, 1, 2, 3, 4}},
		{"a shape that fits no pane", "sample", [][]impl.Node{wrong, roof}, []int{-1, 0}, []int{0}},
		{"the second one fits no pane", "sample", [][]impl.Node{roof, wrong, roof}, []int{0, -1, 2}, []int{1}},
		{"two shapes that fit no pane", "sample", [][]impl.Node{roof, wrong, wrong}, []int{0, -1, -1}, []int{1}},
		{"an empty shape", "sample", [][]impl.Node{{}, roof, nil}, []int{-1, 0, -1}, []int{0}},
		{"eight shapes", "sample", slices.Repeat([][]impl.Node{roof}, 8), []int{0, 2, 3, 4, -1, -1, -1, -1}, []int{0, 1, 2, 3, 4}},
		{"two cells", "two cells", [][]impl.Node{cell, cell, cell}, []int{0, 2, -1}, []int{0, 1, 2}},
		{"a window of other panes", "two cells", [][]impl.Node{roof, cell}, []int{-1, 0}, []int{0}},
		{"a window without panes", "path", [][]impl.Node{cell, roof}, []int{-1, -1}, []int{0}},
		{"a hook for both ends of a bridge", "bridge", [][]impl.Node{hook, hook}, []int{0, 2}, nil},
	}
	for _, c := range cases {
		w := whole[c.window]
		if got := impl.MatchPanes(w, c.shapes); !slices.Equal(got, c.panes) {
			t.Errorf("%s: MatchPanes = %v; want %v", c.name, got, c.panes)
		}
		if got := impl.LackingShapes(w, c.shapes); !slices.Equal(got, c.lacking) {
			t.Errorf("%s: LackingShapes = %v; want %v", c.name, got, c.lacking)
		}
		checkMatch(t, c.name, w, c.shapes)
	}
}

func TestCanFillByHand(t *testing.T) {
	whole := wholeWindows()
	cases := []struct {
		name, window string
		s            []impl.Node
		want         []int
	}{
		{"a roof", "sample", placesOf(0, 0, 8, 0, 4, 4), []int{0, 2, 3, 4}},
		{"a roof, turned", "sample", placesOf(0, 0, 4, 4, 0, 8), []int{0, 2, 3, 4}},
		{"a roof that is not moved", "sample", placesOf(1, 0, 9, 0, 5, 4), nil},
		{"a roof that is not begun", "sample", placesOf(8, 0, 4, 4, 0, 0), nil},
		{"the wall around", "sample", placesOf(0, 0, 8, 0, 8, 8, 0, 8), nil},
		{"nothing", "sample", nil, nil},
		{"a node off the board", "sample", placesOf(0, 0, 21, 0, 4, 4), nil},
		{"an arrow", "arrow", placesOf(0, 0, 5, 3, 10, 0, 5, 10), []int{0}},
		{"a face that is no pane", "hanging pane", placesOf(0, 0, 16, 0, 16, 16, 0, 16), nil},
		{"a triangle with a loose lead", "inner spike", placesOf(0, 0, 12, 0, 0, 12), nil},
		{"one side of the bent border", "bent border", placesOf(0, 0, 4, 0, 5, 2, 4, 4, 0, 4), []int{0}},
		{"its mirror image, which is half a turn", "bent border", placesOf(1, 0, 5, 0, 5, 4, 1, 4, 0, 2), []int{0}},
	}
	for _, c := range cases {
		w := whole[c.window]
		if got := impl.PlacesFor(w, c.s); !slices.Equal(got, c.want) {
			t.Errorf("%s: PlacesFor(%v) = %v; want %v", c.name, c.s, got, c.want)
		}
		for f := -1; f <= 6; f++ {
			if got := impl.CanFill(w, f, c.s); got != slices.Contains(c.want, f) {
				t.Errorf("%s: CanFill(%d, %v) = %v", c.name, f, c.s, got)
			}
		}
	}
}

func TestTheBackOfAPaneDoesNotFit(t *testing.T) {
	w := drawn([]int{3, 3, 9, 3, 3, 5}, 0, 1, 1, 2, 0, 2)
	front, back := placesOf(0, 0, 6, 0, 0, 2), placesOf(0, 0, 6, 0, 6, 2)
	if !impl.CanFill(w, 0, front) || impl.CanFill(w, 0, back) || len(impl.PlacesFor(w, back)) != 0 {
		t.Error("the back of a pane fits, or its front does not")
	}
	shapes := [][]impl.Node{back, front}
	if match, lacking := impl.MatchPanes(w, shapes), impl.LackingShapes(w, shapes); !slices.Equal(match, []int{-1, 0}) || !slices.Equal(lacking, []int{0}) {
		t.Errorf("MatchPanes = %v and LackingShapes = %v", match, lacking)
	}
}

func TestAllLostPanesFindAPlace(t *testing.T) {
	source := rand.New(rand.NewSource(19))
	for name, w := range byName(someWholeWindows(191, 150)) {
		for range 6 {
			checkMatch(t, name, w, someShapes(source, w, source.Intn(6)))
		}
		own := [][]impl.Node{}
		for f := range facesByAngle(w) {
			s := shapeByHand(w, f)
			if got := impl.PlacesFor(w, s); !slices.Equal(got, placesByHand(w, s)) {
				t.Errorf("%s: PlacesFor(%v) = %v", name, s, got)
			}
			if len(s) > 0 && len(own) < 8 {
				own = append(own, settledByHand(turnedOnBoard(s)))
			}
			for g := range facesByAngle(w) {
				if got := impl.CanFill(w, g, s); got != slices.Contains(placesByHand(w, s), g) {
					t.Errorf("%s: CanFill(%d, %v) = %v", name, g, s, got)
				}
			}
		}
		// The panes of a window always find their places again.
		if got := impl.MatchPanes(w, own); impl.CountMatched(got) != len(own) || len(impl.LackingShapes(w, own)) != 0 {
			t.Errorf("%s: MatchPanes of its own shapes = %v", name, got)
		}
	}
}

func TestEightShapesAndNine(t *testing.T) {
	source := rand.New(rand.NewSource(190))
	for _, name := range []string{"sample", "wheel", "two cells", "bridge", "straight line", "full"} {
		w := wholeWindows()[name]
		for range 10 {
			checkMatch(t, name, w, someShapes(source, w, 8))
		}
		for _, count := range []int{9, 10, 100} {
			shapes := someShapes(source, w, count)
			if got := impl.MatchPanes(w, shapes); len(got) != 0 {
				t.Errorf("%s: MatchPanes of %d shapes = %v; want nil", name, count, got)
			}
			if got := impl.LackingShapes(w, shapes); len(got) != 0 {
				t.Errorf("%s: LackingShapes of %d shapes = %v; want nil", name, count, got)
			}
		}
	}
}

func TestCountMatched(t *testing.T) {
	cases := []struct {
		list []int
		want int
	}{
		{nil, 0}, {[]int{}, 0}, {[]int{-1}, 0}, {[]int{0}, 1}, {[]int{0, 0}, 2}, {[]int{2, -1, 0}, 2},
		{[]int{-1, -2, leastInt}, 0}, {[]int{leastInt, greatestInt, -7, 100}, 2}, {slices.Repeat([]int{3, -3}, 500), 500},
	}
	for _, c := range cases {
		if got := impl.CountMatched(c.list); got != c.want {
			t.Errorf("CountMatched(%v) = %d; want %d", c.list, got, c.want)
		}
	}
}

func TestFacesAndWindowsWithoutPlaces(t *testing.T) {
	for name, w := range wholeWindows() {
		for _, f := range append(wrongIndices(len(facesByAngle(w))), wallAround(w)) {
			for _, s := range append(wrongShapes(), placesOf(0, 0, 4, 0, 4, 4, 0, 4)) {
				if impl.CanFill(w, f, s) {
					t.Errorf("%s: CanFill(%d, %v) = true", name, f, s)
				}
			}
		}
		for _, s := range wrongShapes() {
			if got := impl.PlacesFor(w, s); len(got) != 0 {
				t.Errorf("%s: PlacesFor(%v) = %v", name, s, got)
			}
		}
	}
	shapes := [][]impl.Node{placesOf(0, 0, 8, 0, 0, 8), placesOf(0, 0, 16, 0, 0, 16), {}}
	for name, w := range notWholeWindows() {
		for f := -1; f <= 3; f++ {
			if impl.CanFill(w, f, shapes[0]) {
				t.Errorf("%s: CanFill(%d) = true", name, f)
			}
		}
		if got := impl.PlacesFor(w, shapes[0]); len(got) != 0 {
			t.Errorf("%s: PlacesFor = %v; want nil", name, got)
		}
		if match, lacking := impl.MatchPanes(w, shapes), impl.LackingShapes(w, shapes); len(match) != 0 || len(lacking) != 0 {
			t.Errorf("%s: MatchPanes = %v and LackingShapes = %v; want nil", name, match, lacking)
		}
	}
}

func TestLostPanesLeaveArgumentsAsTheyAre(t *testing.T) {
	source := rand.New(rand.NewSource(192))
	for name, w := range byName(wholeWindows()) {
		roomy, isUntouched := roomyWindow(w)
		shapes := someShapes(source, w, 5)
		areUntouched := []func() bool{}
		for i, s := range shapes {
			longer, isShapeUntouched := roomyOf(s, impl.Node{X: 1, Y: 1}, impl.Node{X: 2, Y: 1})
			shapes[i], areUntouched = longer, append(areUntouched, isShapeUntouched)
		}
		checkFresh(t, name+", chapter 19", func() [][]int {
			return [][]int{impl.PlacesFor(roomy, shapes[0]), impl.MatchPanes(roomy, shapes), impl.LackingShapes(roomy, shapes)}
		})
		impl.CanFill(roomy, 0, shapes[0])
		list, isListUntouched := roomyList([]int{1, -1})
		impl.CountMatched(list)
		isChanged := slices.ContainsFunc(areUntouched, func(is func() bool) bool { return !is() })
		if isChanged || !isUntouched() || !isListUntouched() {
			t.Errorf("%s: an argument is modified, or a result shares its memory", name)
		}
	}
}
