package tests

import (
	"iter"
	"slices"
	"testing"

	"loop.example/g03303/impl"
)

// besideLists tells for each face which faces are beside it.
func besideLists(w impl.Window) [][]int {
	sides := sidesByAngle(w)
	lists := [][]int{}
	for f := range facesByAngle(w) {
		lists = append(lists, facesBeside(sides, f))
	}
	return lists
}

// properLists goes through all proper lists of the colors from 0 to n - 1 that
// keep the wishes, in lexicographic order. It looks back, never ahead.
func properLists(beside [][]int, wishes []int, n int) iter.Seq[[]int] {
	colors := make([]int, len(beside))
	var fill func(f int, yield func([]int) bool) bool
	fill = func(f int, yield func([]int) bool) bool {
		if f == len(colors) {
			return yield(slices.Clone(colors))
		}
		for color := range n {
			if wishes[f] >= 0 && wishes[f] != color {
				continue
			}
			clashes := slices.ContainsFunc(beside[f], func(g int) bool { return g < f && colors[g] == color })
			colors[f] = color
			if !clashes && !fill(f+1, yield) {
				return false
			}
		}
		return true
	}
	return func(yield func([]int) bool) { fill(0, yield) }
}

// noWishes leaves the choice free for each face.
func noWishes(faces int) []int { return slices.Repeat([]int{-1}, faces) }

// firstOf returns the first list and true, or nil and false if there is none.
func firstOf(lists iter.Seq[[]int]) ([]int, bool) {
	for list := range lists {
		return list, true
	}
	return nil, false
}

func countOf(lists iter.Seq[[]int]) int {
	count := 0
	for range lists {
		count++
	}
	return count
}

// wrongColorLists are no lists of colors for so many faces.
func wrongColorLists(faces int) [][]int {
	proper := make([]int, faces)
	lists := [][]int{nil, proper[:faces-1], append(slices.Clone(proper), 0), append(slices.Clone(proper), 1, 2)}
	for _, color := range []int{-1, -2, 6, 7, leastInt, greatestInt} {
		for f := range faces {
			list := slices.Clone(proper)
			list[f] = color
			lists = append(lists, list)
		}
	}
	return lists
}

func TestColorsByHand(t *testing.T) {
	cases := []struct {
		window string
		greedy []int
		first  []int // with the fewest colors
		fewest int
		counts []int // for 1 to 4 colors
	}{
		{"sample", []int{0, 1, 2, 0, 2}, []int{0, 1, 2, 0, 2}, 3, []int{0, 0, 6, 72}},
		{"one lead", []int{0}, []int{0}, 1, []int{1, 2, 3, 4}},
		{"sun", []int{0}, []int{0}, 1, []int{1, 2, 3, 4}},
		{"triangle", []int{0, 1}, []int{0, 1}, 2, []int{0, 2, 6, 12}},
		{"inner spike", []int{0, 1}, []int{0, 1}, 2, []int{0, 2, 6, 12}},
		{"bow tie", []int{0, 1, 1}, []int{0, 1, 1}, 2, []int{0, 2, 12, 36}},
		{"two cells", []int{0, 1, 2}, []int{0, 1, 2}, 3, []int{0, 0, 6, 24}},
		{"hanging pane", []int{0, 1, 1}, []int{0, 1, 1}, 2, []int{0, 2, 12, 36}},
		{"four in all", []int{0, 1, 2, 3}, []int{0, 1, 2, 3}, 4, []int{0, 0, 0, 24}},
		{"wheel", []int{0, 1, 2, 0, 2, 3}, []int{0, 1, 2, 0, 2, 3}, 4, []int{0, 0, 0, 120}},
	}
	for _, c := range cases {
		w := wholeWindows()[c.window]
		if got := impl.GreedyColors(w); !slices.Equal(got, c.greedy) {
			t.Errorf("%s: GreedyColors = %v; want %v", c.window, got, c.greedy)
		}
		if got := impl.FewestColors(w); got != c.fewest {
			t.Errorf("%s: FewestColors = %d; want %d", c.window, got, c.fewest)
		}
		if got, ok := impl.ColorWith(w, c.fewest); !ok || !slices.Equal(got, c.first) {
			t.Errorf("%s: ColorWith(%d) = %v, %v; want %v", c.window, c.fewest, got, ok, c.first)
		}
		if got, ok := impl.ColorWith(w, c.fewest-1); ok || len(got) != 0 {
			t.Errorf("%s: ColorWith(%d) = %v, %v", c.window, c.fewest-1, got, ok)
		}
		for i, want := range c.counts {
			if got := impl.CountColorings(w, i+1); got != want {
				t.Errorf("%s: CountColorings(%d) = %d; want %d", c.window, i+1, got, want)
			}
		}
	}
}

// greedyByHand gives each face the least color that is not beside it yet.
func greedyByHand(beside [][]int) []int {
	colors := noWishes(len(beside))
	for f := range colors {
		color := 0
		for slices.ContainsFunc(beside[f], func(g int) bool { return colors[g] == color }) {
			color++
		}
		colors[f] = color
	}
	return colors
}

func TestGreedyColorsCanBeMoreThanTheFewest(t *testing.T) {
	more := 0
	for name, w := range someWholeWindows(131, 300) {
		got := impl.GreedyColors(w)
		if !slices.Equal(got, greedyByHand(besideLists(w))) {
			t.Errorf("%s: GreedyColors = %v; want %v", name, got, greedyByHand(besideLists(w)))
		}
		if slices.Max(got)+1 > impl.FewestColors(w) {
			more++
		}
	}
	if more == 0 {
		t.Error("GreedyColors has the fewest colors for all windows")
	}
}

func TestFourColorsAreEnough(t *testing.T) {
	for name, w := range someWholeWindows(13, 200) {
		beside := besideLists(w)
		free := noWishes(len(beside))
		fewest := 0
		for n := 1; n <= 6; n++ {
			want, isThere := firstOf(properLists(beside, free, n))
			if isThere && fewest == 0 {
				fewest = n
			}
			got, ok := impl.ColorWith(w, n)
			if ok != isThere || !slices.Equal(got, want) {
				t.Errorf("%s: ColorWith(%d) = %v, %v; want %v, %v", name, n, got, ok, want, isThere)
			}
			if ok && (!impl.AreProper(w, got) || impl.ClashOf(w, got) != -1) {
				t.Errorf("%s: ColorWith(%d) = %v is not proper", name, n, got)
			}
		}
		if got := impl.FewestColors(w); got != fewest || got > 4 {
			t.Errorf("%s: FewestColors = %d; want %d", name, got, fewest)
		}
		for n := 1; n <= 4; n++ {
			if got, want := impl.CountColorings(w, n), countOf(properLists(beside, free, n)); got != want {
				t.Errorf("%s: CountColorings(%d) = %d; want %d", name, n, got, want)
			}
		}
	}
}

func TestNumbersOfColorsOutOfRange(t *testing.T) {
	for name, w := range wholeWindows() {
		for _, n := range []int{0, -1, 7, 8, leastInt, greatestInt} {
			if got, ok := impl.ColorWith(w, n); ok || len(got) != 0 {
				t.Errorf("%s: ColorWith(%d) = %v, %v", name, n, got, ok)
			}
		}
		if _, ok := impl.ColorWith(w, 6); !ok {
			t.Errorf("%s: ColorWith(6) = false", name)
		}
		for _, n := range []int{0, -1, 5, 6, leastInt, greatestInt} {
			if got := impl.CountColorings(w, n); got != -1 {
				t.Errorf("%s: CountColorings(%d) = %d; want -1", name, n, got)
			}
		}
	}
}

// clashByHand returns the first lead between different faces of one color.
func clashByHand(w impl.Window, colors []int) int {
	return slices.IndexFunc(sidesByAngle(w), func(s [2]int) bool { return s[0] != s[1] && colors[s[0]] == colors[s[1]] })
}

func TestClashesOfAllLists(t *testing.T) {
	for _, window := range []string{"sample", "one lead", "triangle", "inner spike", "outer spike", "bow tie", "bent border", "hanging pane", "four in all"} {
		w := wholeWindows()[window]
		colors := make([]int, len(facesByAngle(w)))
		for number := range 1024 {
			for f := range colors {
				// Two bits for each face, as the colors 0, 1, 4 and 5.
				colors[f] = []int{0, 1, 4, 5}[number>>(2*f)&3]
			}
			want := clashByHand(w, colors)
			if got := impl.ClashOf(w, colors); got != want {
				t.Fatalf("%s: ClashOf(%v) = %d; want %d", window, colors, got, want)
			}
			if got := impl.AreProper(w, colors); got != (want == -1) {
				t.Fatalf("%s: AreProper(%v) = %v", window, colors, got)
			}
		}
	}
}

func TestClashesByHand(t *testing.T) {
	sample := impl.SampleWindow()
	for _, c := range []struct {
		colors []int
		clash  int
	}{
		{[]int{0, 1, 2, 0, 2}, -1}, {[]int{5, 4, 3, 5, 3}, -1}, {[]int{0, 1, 2, 3, 4}, -1},
		{[]int{1, 1, 2, 0, 2}, 0}, {[]int{0, 1, 1, 0, 2}, 1}, {[]int{0, 1, 2, 0, 0}, 4}, {[]int{0, 1, 2, 3, 3}, 7},
		{[]int{0, 0, 0, 0, 0}, 0}, {[]int{5, 5, 5, 5, 5}, 0}, {[]int{0, 1, 2, 2, 1}, 3},
	} {
		if got := impl.ClashOf(sample, c.colors); got != c.clash {
			t.Errorf("ClashOf(%v) = %d; want %d", c.colors, got, c.clash)
		}
		if got := impl.AreProper(sample, c.colors); got != (c.clash == -1) {
			t.Errorf("AreProper(%v) = %v", c.colors, got)
		}
	}
	// Both sides of a loose lead have one color, because they are one face.
	if w := wholeWindows()["path"]; !impl.AreProper(w, []int{3}) || impl.ClashOf(w, []int{3}) != -1 {
		t.Error("a loose lead clashes with itself")
	}
}

func TestListsThatAreNoColors(t *testing.T) {
	for name, w := range wholeWindows() {
		for _, colors := range wrongColorLists(len(facesByAngle(w))) {
			if impl.AreProper(w, colors) {
				t.Errorf("%s: AreProper(%v) = true", name, colors)
			}
			if got := impl.ClashOf(w, colors); got != -1 {
				t.Errorf("%s: ClashOf(%v) = %d; want -1", name, colors, got)
			}
		}
	}
}

func TestOnlyWholeWindowsHaveColors(t *testing.T) {
	for name, w := range notWholeWindows() {
		for faces := range 4 {
			colors := make([]int, faces)
			if impl.AreProper(w, colors) || impl.ClashOf(w, colors) != -1 {
				t.Errorf("%s: AreProper(%v) = true or ClashOf is not -1", name, colors)
			}
		}
		if got := impl.GreedyColors(w); len(got) != 0 {
			t.Errorf("%s: GreedyColors = %v; want nil", name, got)
		}
		if got := impl.FewestColors(w); got != -1 {
			t.Errorf("%s: FewestColors = %d; want -1", name, got)
		}
		for n := -1; n <= 7; n++ {
			if got, ok := impl.ColorWith(w, n); ok || len(got) != 0 {
				t.Errorf("%s: ColorWith(%d) = %v, %v", name, n, got, ok)
			}
			if got := impl.CountColorings(w, n); got != -1 {
				t.Errorf("%s: CountColorings(%d) = %d; want -1", name, n, got)
			}
		}
	}
}

func TestColorsLeaveArgumentsAsTheyAre(t *testing.T) {
	for name, w := range wholeWindows() {
		roomy, isUntouched := roomyWindow(w)
		colors, areUntouched := roomyList(impl.GreedyColors(w))
		checkFresh(t, name+", chapter 13", func() [][]int {
			first, _ := impl.ColorWith(roomy, 4)
			return [][]int{impl.GreedyColors(roomy), first}
		})
		impl.AreProper(roomy, colors)
		impl.FewestColors(roomy)
		impl.CountColorings(roomy, 3)
		impl.ClashOf(roomy, colors)
		if !isUntouched() || !areUntouched() {
			t.Errorf("%s: an argument is modified, or a result shares its memory", name)
		}
	}
}
