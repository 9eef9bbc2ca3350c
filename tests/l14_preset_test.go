package tests

import (
	"math/rand"
	"slices"
	"testing"

	"loop.example/g03303/impl"
)

// canKeep reports whether there is a proper list with these wishes.
func canKeep(beside [][]int, wishes []int, n int) bool {
	_, ok := firstOf(properLists(beside, wishes, n))
	return ok
}

// forcedByHand looks for a second color of each free face in all proper lists.
func forcedByHand(beside [][]int, wishes []int, n int) []int {
	first, ok := firstOf(properLists(beside, wishes, n))
	if !ok {
		return nil
	}
	isForced := make([]bool, len(wishes))
	for f, wish := range wishes {
		isForced[f] = wish == -1
	}
	for list := range properLists(beside, wishes, n) {
		for f := range list {
			isForced[f] = isForced[f] && list[f] == first[f]
		}
		if !slices.Contains(isForced, true) {
			break
		}
	}
	forced := []int{}
	for f, is := range isForced {
		if is {
			forced = append(forced, f)
		}
	}
	return forced
}

// badByHand leaves out wishes from the last one to the first one.
func badByHand(beside [][]int, wishes []int, n int) []int {
	if canKeep(beside, wishes, n) {
		return nil
	}
	left := slices.Clone(wishes)
	for f := len(left) - 1; f >= 0; f-- {
		fewer := slices.Clone(left)
		fewer[f] = -1
		if !canKeep(beside, fewer, n) {
			left = fewer
		}
	}
	bad := []int{}
	for f, wish := range left {
		if wish != -1 {
			bad = append(bad, f)
		}
	}
	return bad
}

func TestWishesByHand(t *testing.T) {
	cases := []struct {
		window      string
		wishes      []int
		n           int
		fill        []int
		forced, bad []int
	}{
		{"sample", []int{-1, -1, -1, -1, -1}, 3, []int{0, 1, 2, 0, 2}, nil, nil},
		{"sample", []int{-1, -1, -1, -1, -1}, 2, nil, nil, nil},
		{"sample", []int{2, -1, -1, -1, -1}, 3, []int{2, 0, 1, 2, 1}, []int{3}, nil},
		{"sample", []int{0, 1, 2, -1, -1}, 3, []int{0, 1, 2, 0, 2}, []int{3, 4}, nil},
		{"sample", []int{0, 1, 2, -1, -1}, 4, []int{0, 1, 2, 0, 2}, nil, nil},
		{"sample", []int{-1, 5, -1, -1, -1}, 6, []int{0, 5, 1, 0, 1}, nil, nil},
		{"sample", []int{-1, 5, -1, -1, -1}, 5, nil, nil, []int{1}},
		{"sample", []int{-1, 3, -1, 2, -1}, 3, nil, nil, []int{1}},
		{"sample", []int{1, 1, -1, 2, -1}, 4, nil, nil, []int{0, 1}},
		{"sample", []int{1, 2, 1, -1, 1}, 4, nil, nil, []int{0, 2}},
		{"sample", []int{-1, 0, 1, -1, 2}, 3, nil, nil, []int{2, 4}},
		{"sample", []int{0, -1, 1, 3, 2}, 4, nil, nil, []int{0, 2, 3, 4}},
		{"sample", []int{0, 1, 0, 1, 0}, 4, nil, nil, []int{0, 2}},
		{"sample", []int{0, -1, -1, 1, -1}, 3, nil, nil, []int{0, 3}},
		{"sample", []int{0, 1, 2, 0, 2}, 3, []int{0, 1, 2, 0, 2}, nil, nil},
		{"one lead", []int{-1}, 1, []int{0}, []int{0}, nil},
		{"one lead", []int{-1}, 2, []int{0}, nil, nil},
		{"one lead", []int{5}, 6, []int{5}, nil, nil},
		{"one lead", []int{5}, 5, nil, nil, []int{0}},
		{"triangle", []int{-1, 0}, 2, []int{1, 0}, []int{0}, nil},
		{"triangle", []int{-1, -1}, 1, nil, nil, nil},
		{"triangle", []int{-1, 0}, 1, nil, nil, nil},
		{"inner spike", []int{4, 4}, 6, nil, nil, []int{0, 1}},
		{"four in all", []int{-1, 3, -1, 1}, 4, []int{0, 3, 2, 1}, nil, nil},
		{"four in all", []int{2, 3, -1, 1}, 4, []int{2, 3, 0, 1}, []int{2}, nil},
		{"four in all", []int{2, 3, 0, 1}, 4, []int{2, 3, 0, 1}, nil, nil},
	}
	for _, c := range cases {
		w := wholeWindows()[c.window]
		if got, ok := impl.FillWishes(w, c.wishes, c.n); ok != (c.fill != nil) || !slices.Equal(got, c.fill) {
			t.Errorf("%s: FillWishes(%v, %d) = %v, %v; want %v", c.window, c.wishes, c.n, got, ok, c.fill)
		}
		if got := impl.ForcedFaces(w, c.wishes, c.n); !slices.Equal(got, c.forced) {
			t.Errorf("%s: ForcedFaces(%v, %d) = %v; want %v", c.window, c.wishes, c.n, got, c.forced)
		}
		if got := impl.BadWishes(w, c.wishes, c.n); !slices.Equal(got, c.bad) {
			t.Errorf("%s: BadWishes(%v, %d) = %v; want %v", c.window, c.wishes, c.n, got, c.bad)
		}
	}
}

// randomWishes has a wish for about every second face; some are too great for n.
func randomWishes(source *rand.Rand, faces int, n int) []int {
	wishes := noWishes(faces)
	free := 1 + source.Intn(4)
	for f := range wishes {
		if source.Intn(5) >= free {
			wishes[f] = source.Intn(min(n+source.Intn(20)/19, 6))
		}
	}
	return wishes
}

// checkBadSet looks whether a set of wishes contradicts itself, but no part of it.
func checkBadSet(t *testing.T, w impl.Window, wishes []int, n int, bad []int) {
	t.Helper()
	only := noWishes(len(wishes))
	for _, f := range bad {
		only[f] = wishes[f]
	}
	if _, ok := impl.FillWishes(w, only, n); ok {
		t.Errorf("the wishes %v of %v do not contradict each other with %d colors", bad, wishes, n)
	}
	for _, f := range bad {
		fewer := slices.Clone(only)
		fewer[f] = -1
		if _, ok := impl.FillWishes(w, fewer, n); !ok {
			t.Errorf("of the bad wishes %v of %v, that of face %d can be left out", bad, wishes, f)
		}
	}
}

func TestWishesAreFulfilledOrContradictEachOther(t *testing.T) {
	source := rand.New(rand.NewSource(14))
	filled, failed, forced := 0, 0, 0
	for name, w := range byName(someWholeWindows(141, 120)) {
		beside := besideLists(w)
		for n := 1; n <= 6 && (n <= 4 || len(beside) <= 7); n++ {
			wishes := randomWishes(source, len(beside), n)
			want, isThere := firstOf(properLists(beside, wishes, n))
			got, ok := impl.FillWishes(w, wishes, n)
			if ok != isThere || !slices.Equal(got, want) {
				t.Errorf("%s: FillWishes(%v, %d) = %v, %v; want %v", name, wishes, n, got, ok, want)
			}
			faces := impl.ForcedFaces(w, wishes, n)
			if want := forcedByHand(beside, wishes, n); !slices.Equal(faces, want) {
				t.Errorf("%s: ForcedFaces(%v, %d) = %v; want %v", name, wishes, n, faces, want)
			}
			bad := impl.BadWishes(w, wishes, n)
			if want := badByHand(beside, wishes, n); !slices.Equal(bad, want) {
				t.Errorf("%s: BadWishes(%v, %d) = %v; want %v", name, wishes, n, bad, want)
			}
			forced += len(faces)
			if ok {
				filled++
			} else {
				failed++
				checkBadSet(t, w, wishes, n, bad)
			}
		}
	}
	if filled < 100 || failed < 100 || forced < 50 {
		t.Error("too few wishes of a kind:", filled, failed, forced)
	}
}

func TestFillWishesWithoutWishesIsColorWith(t *testing.T) {
	for name, w := range wholeWindows() {
		free := noWishes(len(facesByAngle(w)))
		for n := 1; n <= 6; n++ {
			want, isThere := impl.ColorWith(w, n)
			if got, ok := impl.FillWishes(w, free, n); ok != isThere || !slices.Equal(got, want) {
				t.Errorf("%s: FillWishes(%d) = %v, %v; want %v", name, n, got, ok, want)
			}
			if got := impl.BadWishes(w, free, n); len(got) != 0 {
				t.Errorf("%s: BadWishes(%d) = %v; want none", name, n, got)
			}
		}
	}
}

func TestWishesOk(t *testing.T) {
	for name, w := range wholeWindows() {
		faces := len(facesByAngle(w))
		for f := range faces {
			wishes := noWishes(faces)
			for color := -4; color <= 8; color++ {
				wishes[f] = color
				if got := impl.WishesOk(w, wishes); got != (color >= -1 && color <= 5) {
					t.Errorf("%s: WishesOk(%v) = %v", name, wishes, got)
				}
			}
		}
		// Wishes are valid even if they cannot be fulfilled.
		if !impl.WishesOk(w, make([]int, faces)) {
			t.Errorf("%s: WishesOk rejects the same color for all faces", name)
		}
	}
}

// checkNoWishes looks at what is returned for what is not valid.
func checkNoWishes(t *testing.T, name string, w impl.Window, wishes []int, n int) {
	t.Helper()
	if got, ok := impl.FillWishes(w, wishes, n); ok || len(got) != 0 {
		t.Errorf("%s: FillWishes(%v, %d) = %v, %v", name, wishes, n, got, ok)
	}
	if got := impl.ForcedFaces(w, wishes, n); len(got) != 0 {
		t.Errorf("%s: ForcedFaces(%v, %d) = %v; want nil", name, wishes, n, got)
	}
	if got := impl.BadWishes(w, wishes, n); len(got) != 0 {
		t.Errorf("%s: BadWishes(%v, %d) = %v; want nil", name, wishes, n, got)
	}
}

func TestWishesThatAreNotValid(t *testing.T) {
	for name, w := range wholeWindows() {
		faces := len(facesByAngle(w))
		same := make([]int, faces)
		lists := [][]int{nil, same[:faces-1], append(slices.Clone(same), 0), append(noWishes(faces), -1)}
		for _, color := range []int{-2, 6, leastInt, greatestInt} {
			for f := range faces {
				list := slices.Clone(same)
				list[f] = color
				lists = append(lists, list)
			}
		}
		for _, wishes := range lists {
			if impl.WishesOk(w, wishes) {
				t.Errorf("%s: WishesOk(%v) = true", name, wishes)
			}
			for n := 1; n <= 6; n++ {
				checkNoWishes(t, name, w, wishes, n)
			}
		}
		for _, n := range []int{0, -1, 7, 8, leastInt, greatestInt} {
			checkNoWishes(t, name, w, noWishes(faces), n)
			checkNoWishes(t, name, w, same, n)
		}
	}
}

func TestOnlyWholeWindowsHaveWishes(t *testing.T) {
	for name, w := range notWholeWindows() {
		for faces := range 4 {
			for _, wishes := range [][]int{noWishes(faces), make([]int, faces)} {
				if impl.WishesOk(w, wishes) {
					t.Errorf("%s: WishesOk(%v) = true", name, wishes)
				}
				checkNoWishes(t, name, w, wishes, 4)
			}
		}
	}
}

func TestCountWishes(t *testing.T) {
	for _, c := range []struct {
		wishes []int
		want   int
	}{
		{nil, 0}, {[]int{}, 0}, {[]int{-1}, 0}, {[]int{0}, 1}, {[]int{-1, 0, 3}, 2}, {[]int{-1, -1, -1}, 0},
		{[]int{5, 5, 5, 5}, 4}, {[]int{-2, 6, -1, leastInt, greatestInt}, 4}, {slices.Repeat([]int{-1, 2}, 500), 500},
	} {
		if got := impl.CountWishes(c.wishes); got != c.want {
			t.Errorf("CountWishes(%v) = %d; want %d", c.wishes, got, c.want)
		}
	}
}

func TestWishesLeaveArgumentsAsTheyAre(t *testing.T) {
	source := rand.New(rand.NewSource(144))
	for name, w := range byName(wholeWindows()) {
		roomy, isUntouched := roomyWindow(w)
		for n := 1; n <= 4; n++ {
			wishes, areUntouched := roomyList(randomWishes(source, len(facesByAngle(w)), n))
			checkFresh(t, name+", chapter 14", func() [][]int {
				fill, _ := impl.FillWishes(roomy, wishes, n)
				return [][]int{fill, impl.ForcedFaces(roomy, wishes, n), impl.BadWishes(roomy, wishes, n)}
			})
			impl.WishesOk(roomy, wishes)
			impl.CountWishes(wishes)
			if !isUntouched() || !areUntouched() {
				t.Errorf("%s: an argument is modified, or a result shares its memory", name)
			}
		}
		// All wishes are there already, and the result is still new memory.
		full, areUntouched := roomyList(impl.GreedyColors(w))
		checkFresh(t, name+", FillWishes", func() [][]int {
			fill, _ := impl.FillWishes(roomy, full, 6)
			return [][]int{fill}
		})
		if !areUntouched() {
			t.Errorf("%s: FillWishes shares memory with the wishes", name)
		}
	}
}
