package tests

import (
	"math/rand"
	"slices"
	"testing"

	"loop.example/g03303/impl"
)

// chainByHand spreads from f to the faces beside it until nothing is new.
func chainByHand(beside [][]int, colors []int, f int, x int) []int {
	reached := make([]bool, len(colors))
	reached[f] = true
	for range colors {
		for g := range colors {
			if !reached[g] || colors[g] != colors[f] && colors[g] != x {
				continue
			}
			for _, h := range beside[g] {
				reached[h] = reached[h] || colors[h] == colors[f] || colors[h] == x
			}
		}
	}
	chain := []int{}
	for g, is := range reached {
		if is {
			chain = append(chain, g)
		}
	}
	return chain
}

func swapByHand(beside [][]int, colors []int, f int, x int) []int {
	swapped := slices.Clone(colors)
	for _, g := range chainByHand(beside, colors, f, x) {
		if colors[g] == x {
			swapped[g] = colors[f]
		} else {
			swapped[g] = x
		}
	}
	return swapped
}

func hasColorBeside(beside []int, colors []int, x int) bool {
	return slices.ContainsFunc(beside, func(g int) bool { return colors[g] == x })
}

// freeByHand also tells whether a swap was needed.
func freeByHand(beside [][]int, colors []int, f int, n int) (result []int, ok bool, swaps bool) {
	for color := range n {
		if color != colors[f] && !hasColorBeside(beside[f], colors, color) {
			free := slices.Clone(colors)
			free[f] = color
			return free, true, false
		}
	}
	for x := range n {
		for y := range n {
			if x == y || x == colors[f] || y == colors[f] {
				continue
			}
			at := slices.IndexFunc(beside[f], func(g int) bool { return colors[g] == x })
			swapped := swapByHand(beside, colors, beside[f][at], y)
			if !hasColorBeside(beside[f], swapped, x) {
				swapped[f] = x
				return swapped, true, true
			}
		}
	}
	return colors, false, true
}

// randomProper returns some proper colors: the first ones for wishes of one
// face after the other, as far as these can be fulfilled.
func randomProper(source *rand.Rand, beside [][]int, n int) ([]int, bool) {
	wishes := noWishes(len(beside))
	for _, f := range source.Perm(len(beside)) {
		for _, color := range source.Perm(n) {
			wishes[f] = color
			if canKeep(beside, wishes, n) {
				break
			}
			wishes[f] = -1
		}
	}
	return wishes, !slices.Contains(wishes, -1)
}

func TestChainsByHand(t *testing.T) {
	whole := wholeWindows()
	cases := []struct {
		window string
		colors []int
		f, x   int
		chain  []int
		swap   []int
	}{
		{"sample", []int{0, 1, 2, 0, 2}, 0, 1, []int{0, 1, 3}, []int{1, 0, 2, 1, 2}},
		{"sample", []int{0, 1, 2, 0, 2}, 0, 2, []int{0, 2, 3, 4}, []int{2, 1, 0, 2, 0}},
		{"sample", []int{0, 1, 2, 0, 2}, 4, 1, []int{1, 2, 4}, []int{0, 2, 1, 0, 1}},
		{"sample", []int{0, 1, 2, 0, 2}, 3, 5, []int{3}, []int{0, 1, 2, 5, 2}},
		{"sample", []int{0, 1, 2, 3, 4}, 0, 3, []int{0}, []int{3, 1, 2, 3, 4}},
		{"sample", []int{0, 1, 2, 3, 4}, 2, 3, []int{2, 3}, []int{0, 1, 3, 2, 4}},
		{"triangle", []int{4, 5}, 0, 5, []int{0, 1}, []int{5, 4}},
		{"one lead", []int{4}, 0, 0, []int{0}, []int{0}},
		{"bow tie", []int{0, 1, 1}, 1, 0, []int{0, 1, 2}, []int{1, 0, 0}},
		{"bow tie", []int{0, 1, 1}, 2, 3, []int{2}, []int{0, 1, 3}},
	}
	for _, c := range cases {
		w := whole[c.window]
		if got := impl.ChainOf(w, c.colors, c.f, c.x); !slices.Equal(got, c.chain) {
			t.Errorf("%s: ChainOf(%v, %d, %d) = %v; want %v", c.window, c.colors, c.f, c.x, got, c.chain)
		}
		if got, ok := impl.SwapChain(w, c.colors, c.f, c.x); !ok || !slices.Equal(got, c.swap) {
			t.Errorf("%s: SwapChain(%v, %d, %d) = %v, %v; want %v", c.window, c.colors, c.f, c.x, got, ok, c.swap)
		}
	}
}

func TestTheSameColor(t *testing.T) {
	for name, w := range wholeWindows() {
		colors, _ := impl.ColorWith(w, 4)
		for f, color := range colors {
			if got := impl.ChainOf(w, colors, f, color); !slices.Equal(got, []int{f}) {
				t.Errorf("%s: ChainOf(%v, %d, %d) = %v; want the face alone", name, colors, f, color, got)
			}
			if got, ok := impl.SwapChain(w, colors, f, color); ok || !slices.Equal(got, colors) {
				t.Errorf("%s: SwapChain(%v, %d, %d) = %v, %v", name, colors, f, color, got, ok)
			}
			if got := impl.CountChains(w, colors, color, color); got != 0 {
				t.Errorf("%s: CountChains(%v, %d, %d) = %d; want 0", name, colors, color, color, got)
			}
		}
	}
}

func TestCountChainsByHand(t *testing.T) {
	cases := []struct {
		window     string
		colors     []int
		x, y, want int
	}{
		{"sample", []int{0, 1, 2, 0, 2}, 0, 1, 1}, {"sample", []int{0, 1, 2, 0, 2}, 1, 0, 1}, {"sample", []int{0, 1, 2, 0, 2}, 0, 2, 1},
		{"sample", []int{0, 1, 2, 0, 2}, 0, 5, 2}, {"sample", []int{0, 1, 2, 0, 2}, 5, 2, 2}, {"sample", []int{0, 1, 2, 0, 2}, 5, 1, 1}, {"sample", []int{0, 1, 2, 0, 2}, 3, 4, 0},
		{"sample", []int{0, 1, 2, 3, 4}, 0, 3, 2}, {"sample", []int{0, 1, 2, 3, 4}, 2, 3, 1},
		{"sample", []int{0, 1, 2, 0, 2}, 0, 6, 0}, {"sample", []int{0, 1, 2, 0, 2}, -1, 0, 0}, {"sample", []int{0, 1, 2, 0, 2}, 6, 0, 0}, {"sample", []int{0, 1, 2, 0, 2}, 0, -1, 0},
		{"sample", []int{0, 0, 2, 0, 2}, 0, 1, 0}, {"sample", []int{0, 1, 2, 0}, 0, 1, 0},
		{"bow tie", []int{0, 1, 2}, 1, 2, 2}, {"bow tie", []int{0, 1, 1}, 1, 2, 2}, {"bow tie", []int{0, 1, 1}, 1, 0, 1},
		{"one lead", []int{0}, 0, 1, 1}, {"one lead", []int{0}, 2, 1, 0},
	}
	for _, c := range cases {
		if got := impl.CountChains(wholeWindows()[c.window], c.colors, c.x, c.y); got != c.want {
			t.Errorf("%s: CountChains(%v, %d, %d) = %d; want %d", c.window, c.colors, c.x, c.y, got, c.want)
		}
	}
}

// checkChains compares all that chapter 15 says of chains in one coloring.
func checkChains(t *testing.T, name string, w impl.Window, beside [][]int, colors []int) {
	t.Helper()
	for f := range colors {
		for x := range 6 {
			want := chainByHand(beside, colors, f, x)
			if got := impl.ChainOf(w, colors, f, x); !slices.Equal(got, want) {
				t.Errorf("%s: ChainOf(%v, %d, %d) = %v; want %v", name, colors, f, x, got, want)
			}
			if x == colors[f] {
				continue
			}
			swapped, ok := impl.SwapChain(w, colors, f, x)
			if !ok || !slices.Equal(swapped, swapByHand(beside, colors, f, x)) {
				t.Errorf("%s: SwapChain(%v, %d, %d) = %v, %v", name, colors, f, x, swapped, ok)
			}
			if !impl.AreProper(w, swapped) {
				t.Errorf("%s: SwapChain(%v, %d, %d) = %v is not proper", name, colors, f, x, swapped)
			}
			if back, ok := impl.SwapChain(w, swapped, f, colors[f]); !ok || !slices.Equal(back, colors) {
				t.Errorf("%s: SwapChain of %v, %d, twice = %v, %v; want %v", name, swapped, f, back, ok, colors)
			}
		}
	}
	for x := range 6 {
		for y := range 6 {
			firsts := map[int]bool{}
			for f, color := range colors {
				if x != y && (color == x || color == y) {
					firsts[chainByHand(beside, colors, f, x+y-color)[0]] = true
				}
			}
			if got := impl.CountChains(w, colors, x, y); got != len(firsts) {
				t.Errorf("%s: CountChains(%v, %d, %d) = %d; want %d", name, colors, x, y, got, len(firsts))
			}
		}
	}
}

func TestSwappingTwiceIsAsBefore(t *testing.T) {
	source := rand.New(rand.NewSource(15))
	for name, w := range byName(someWholeWindows(151, 60)) {
		beside := besideLists(w)
		for n := 2; n <= 6; n++ {
			if colors, ok := randomProper(source, beside, n); ok {
				checkChains(t, name, w, beside, colors)
			}
		}
	}
}

func TestFreeFaceByHand(t *testing.T) {
	cases := []struct {
		name, window string
		colors       []int
		f, n         int
		want         []int
		ok           bool
	}{
		{"a free color", "sample", []int{0, 1, 2, 0, 2}, 0, 4, []int{3, 1, 2, 0, 2}, true},
		{"a lesser color is free", "sample", []int{4, 1, 2, 0, 2}, 0, 6, []int{0, 1, 2, 0, 2}, true},
		{"its own color does not count", "triangle", []int{0, 3}, 0, 2, []int{1, 3}, true},
		{"its own color is not of the n", "triangle", []int{5, 3}, 0, 2, []int{0, 3}, true},
		{"one face", "one lead", []int{0}, 0, 2, []int{1}, true},
		{"two colors are all taken", "triangle", []int{0, 1}, 0, 2, []int{0, 1}, false},
		{"four faces beside each other", "four in all", []int{0, 1, 2, 3}, 0, 4, []int{0, 1, 2, 3}, false},
		{"four faces and a fifth color", "four in all", []int{0, 1, 2, 3}, 0, 5, []int{4, 1, 2, 3}, true},
		{"a swap is of no use", "sample", []int{0, 1, 2, 0, 2}, 0, 3, []int{0, 1, 2, 0, 2}, false},
		{"a swap is of use", "sample", []int{3, 1, 0, 3, 2}, 0, 4, []int{0, 1, 2, 3, 2}, true},
		{"six colors", "sample", []int{0, 1, 2, 0, 2}, 1, 6, []int{0, 3, 2, 0, 2}, true},
	}
	for _, c := range cases {
		got, ok := impl.FreeFace(wholeWindows()[c.window], c.colors, c.f, c.n)
		if ok != c.ok || !slices.Equal(got, c.want) {
			t.Errorf("%s: FreeFace(%v, %d, %d) = %v, %v; want %v, %v", c.name, c.colors, c.f, c.n, got, ok, c.want, c.ok)
		}
	}
}

func TestFreeFace(t *testing.T) {
	source := rand.New(rand.NewSource(150))
	free, swapped, failed := 0, 0, 0
	for name, w := range byName(someWholeWindows(152, 400)) {
		beside := besideLists(w)
		for n := 2; n <= 6; n++ {
			colors, ok := randomProper(source, beside, 2+source.Intn(n-1))
			for f := range colors {
				if !ok {
					break
				}
				want, isFreed, swaps := freeByHand(beside, colors, f, n)
				got, ok := impl.FreeFace(w, colors, f, n)
				if ok != isFreed || !slices.Equal(got, want) {
					t.Errorf("%s: FreeFace(%v, %d, %d) = %v, %v; want %v, %v", name, colors, f, n, got, ok, want, isFreed)
				}
				if ok && (!impl.AreProper(w, got) || got[f] == colors[f]) {
					t.Errorf("%s: FreeFace(%v, %d, %d) = %v", name, colors, f, n, got)
				}
				switch {
				case !isFreed:
					failed++
				case swaps:
					swapped++
				default:
					free++
				}
			}
		}
	}
	if free < 50 || swapped < 50 || failed < 50 {
		t.Error("too few faces of a kind:", free, swapped, failed)
	}
}

// checkNoChain looks at what is returned for what is not valid.
func checkNoChain(t *testing.T, name string, w impl.Window, colors []int, f int, x int) {
	t.Helper()
	if got := impl.ChainOf(w, colors, f, x); len(got) != 0 {
		t.Errorf("%s: ChainOf(%v, %d, %d) = %v; want nil", name, colors, f, x, got)
	}
	if got, ok := impl.SwapChain(w, colors, f, x); ok || !slices.Equal(got, colors) {
		t.Errorf("%s: SwapChain(%v, %d, %d) = %v, %v", name, colors, f, x, got, ok)
	}
}

func checkNotFreed(t *testing.T, name string, w impl.Window, colors []int, f int, n int) {
	t.Helper()
	if got, ok := impl.FreeFace(w, colors, f, n); ok || !slices.Equal(got, colors) {
		t.Errorf("%s: FreeFace(%v, %d, %d) = %v, %v", name, colors, f, n, got, ok)
	}
}

func TestChainsThatAreNotThere(t *testing.T) {
	for name, w := range wholeWindows() {
		colors, _ := impl.ColorWith(w, 4)
		for _, f := range wrongIndices(len(colors)) {
			checkNoChain(t, name, w, colors, f, 5)
			checkNotFreed(t, name, w, colors, f, 6)
		}
		for _, x := range []int{-1, -2, 6, 7, leastInt, greatestInt} {
			checkNoChain(t, name, w, colors, 0, x)
			if impl.CountChains(w, colors, x, 0) != 0 || impl.CountChains(w, colors, 0, x) != 0 {
				t.Errorf("%s: CountChains counts for the color %d", name, x)
			}
		}
		for _, n := range []int{1, 0, -1, 7, 8, leastInt, greatestInt} {
			checkNotFreed(t, name, w, colors, 0, n)
		}
	}
}

func TestColorsThatAreNotProperHaveNoChains(t *testing.T) {
	for name, w := range wholeWindows() {
		faces := len(facesByAngle(w))
		lists := wrongColorLists(faces)
		if faces > 1 {
			lists = append(lists, make([]int, faces), slices.Repeat([]int{5}, faces))
		}
		for _, colors := range lists {
			checkNoChain(t, name, w, colors, 0, 4)
			checkNotFreed(t, name, w, colors, 0, 6)
			if got := impl.CountChains(w, colors, 0, 5); got != 0 {
				t.Errorf("%s: CountChains(%v) = %d; want 0", name, colors, got)
			}
		}
	}
	for name, w := range notWholeWindows() {
		for _, colors := range [][]int{nil, {0}, {0, 1}, {0, 1, 2}} {
			checkNoChain(t, name, w, colors, 0, 4)
			checkNotFreed(t, name, w, colors, 0, 6)
			if got := impl.CountChains(w, colors, 0, 1); got != 0 {
				t.Errorf("%s: CountChains(%v) = %d; want 0", name, colors, got)
			}
		}
	}
}

func TestChainsLeaveArgumentsAsTheyAre(t *testing.T) {
	for name, w := range allWindows() {
		roomy, isUntouched := roomyWindow(w)
		colors, areUntouched := roomyList(impl.GreedyColors(w))
		for f := -1; f <= len(colors); f++ {
			for n := 1; n <= 5; n++ {
				checkFresh(t, name+", chapter 15", func() [][]int {
					swapped, _ := impl.SwapChain(roomy, colors, f, n)
					freed, _ := impl.FreeFace(roomy, colors, f, n)
					return [][]int{impl.ChainOf(roomy, colors, f, n), swapped, freed}
				})
				impl.CountChains(roomy, colors, 0, n)
			}
		}
		if !isUntouched() || !areUntouched() {
			t.Errorf("%s: an argument is modified, or a result shares its memory", name)
		}
	}
}
