package tests

import (
	"iter"
	"maps"
	"math/rand"
	"slices"
	"testing"

	"loop.example/g03303/impl"
)

// drawn reads the places of the nodes and the ends of the leads in pairs.
func drawn(places []int, ends ...int) impl.Window {
	w := impl.Window{}
	for i := 0; i < len(places); i += 2 {
		w.Nodes = append(w.Nodes, impl.Node{X: places[i], Y: places[i+1]})
	}
	for i := 0; i < len(ends); i += 2 {
		w.Leads = append(w.Leads, impl.Lead{From: ends[i], To: ends[i+1]})
	}
	return w
}

// wholeWindows are valid, have leads, and hang together.
func wholeWindows() map[string]impl.Window {
	cells := []int{0, 0, 4, 0, 8, 0, 8, 4, 4, 4, 0, 4}
	return map[string]impl.Window{
		"sample":         impl.SampleWindow(),
		"shuffled":       drawn([]int{0, 0, 8, 0, 8, 8, 0, 8, 4, 4}, 3, 4, 0, 3, 1, 4, 2, 3, 0, 1, 2, 4, 1, 2, 0, 4),
		"full":           fullWindow(),
		"one lead":       drawn([]int{0, 0, 20, 20}, 0, 1),
		"steep lead":     drawn([]int{7, 20, 6, 0}, 0, 1),
		"path":           drawn([]int{0, 0, 3, 5, 9, 1, 9, 8}, 1, 2, 0, 1, 2, 3),
		"sun":            drawn([]int{10, 10, 20, 20, 10, 20, 0, 10, 20, 10, 10, 0, 0, 0, 0, 20, 20, 0}, 0, 3, 0, 8, 0, 1, 0, 5, 0, 7, 0, 4, 0, 6, 0, 2),
		"triangle":       drawn([]int{0, 0, 6, 0, 0, 6}, 0, 1, 1, 2, 0, 2),
		"backwards":      drawn([]int{0, 6, 6, 0, 0, 0}, 0, 1, 1, 2, 0, 2),
		"straight edge":  drawn([]int{0, 0, 4, 0, 8, 0, 8, 8, 0, 8}, 0, 1, 1, 2, 2, 3, 3, 4, 0, 4),
		"two cells":      drawn(cells, 0, 1, 1, 2, 2, 3, 3, 4, 4, 5, 0, 5, 1, 4),
		"bent border":    drawn(append(slices.Clone(cells), 5, 2), 0, 1, 1, 2, 2, 3, 3, 4, 4, 5, 0, 5, 1, 6, 4, 6),
		"straight line":  drawn(append(slices.Clone(cells), 4, 2), 1, 6, 0, 1, 1, 2, 2, 3, 3, 4, 4, 5, 0, 5, 4, 6),
		"inner spike":    drawn([]int{0, 0, 12, 0, 0, 12, 3, 3}, 0, 1, 1, 2, 0, 2, 0, 3),
		"outer spike":    drawn([]int{0, 0, 12, 0, 0, 12, 16, 4}, 0, 1, 1, 2, 0, 2, 1, 3),
		"bridge":         drawn([]int{0, 0, 4, 0, 0, 4, 10, 0, 14, 0, 10, 4}, 0, 1, 1, 2, 0, 2, 1, 3, 3, 4, 4, 5, 3, 5),
		"bow tie":        drawn([]int{4, 4, 0, 2, 0, 6, 8, 2, 8, 6}, 0, 1, 1, 2, 0, 2, 0, 3, 3, 4, 0, 4),
		"hanging pane":   drawn([]int{0, 0, 16, 0, 16, 16, 0, 16, 6, 6, 10, 6, 6, 10}, 0, 4, 0, 1, 1, 2, 2, 3, 0, 3, 4, 5, 5, 6, 4, 6),
		"pane in corner": drawn([]int{0, 0, 16, 0, 16, 16, 0, 16, 8, 2, 2, 8}, 0, 1, 1, 2, 2, 3, 0, 3, 0, 4, 4, 5, 0, 5),
		"arrow":          drawn([]int{0, 0, 10, 5, 0, 10, 3, 5}, 0, 1, 1, 2, 2, 3, 0, 3),
		"four in all":    drawn([]int{0, 0, 12, 0, 0, 12, 3, 3}, 0, 1, 1, 2, 0, 2, 0, 3, 1, 3, 2, 3),
		"wheel":          drawn([]int{10, 0, 20, 8, 16, 20, 4, 20, 0, 8, 10, 10}, 0, 1, 1, 2, 2, 3, 3, 4, 0, 4, 0, 5, 1, 5, 2, 5, 3, 5, 4, 5),
		"straight rows":  drawn([]int{0, 0, 2, 0, 4, 0, 6, 0, 8, 0, 8, 8, 8, 12, 4, 4}, 0, 1, 1, 2, 2, 3, 3, 4, 4, 5, 5, 6, 6, 7, 0, 7),
	}
}

// apartWindows are valid, but not whole.
func apartWindows() map[string]impl.Window {
	return map[string]impl.Window{
		"one node":           drawn([]int{20, 20}),
		"no leads":           drawn([]int{0, 0, 20, 0, 0, 20}),
		"most nodes":         {Nodes: fullWindow().Nodes},
		"first node alone":   drawn([]int{20, 20, 0, 0, 8, 0, 0, 8}, 1, 2, 2, 3, 1, 3),
		"last node alone":    drawn([]int{0, 0, 8, 0, 0, 8, 20, 20}, 0, 1, 1, 2, 0, 2),
		"node in a pane":     drawn([]int{0, 0, 8, 0, 2, 2, 0, 8}, 0, 1, 1, 3, 0, 3),
		"cross":              crossWindow(),
		"two leads":          drawn([]int{0, 0, 1, 1, 1, 0, 2, 1}, 0, 1, 2, 3),
		"side by side":       drawn([]int{0, 0, 12, 0, 4, 0, 16, 0, 0, 4, 12, 4}, 0, 2, 2, 4, 0, 4, 1, 3, 3, 5, 1, 5),
		"one in another":     drawn([]int{0, 0, 16, 0, 0, 16, 2, 2, 6, 2, 2, 6}, 0, 1, 1, 2, 0, 2, 3, 4, 4, 5, 3, 5),
		"three parts":        drawn([]int{0, 0, 0, 9, 3, 0, 3, 9, 6, 0, 6, 9}, 4, 5, 0, 1, 2, 3),
		"pane and two nodes": drawn([]int{0, 0, 16, 0, 0, 16, 2, 2, 20, 20}, 0, 1, 1, 2, 0, 2),
	}
}

// byName goes through windows in the same order each time. Without it, a test
// that takes random numbers on the way would do something else in every run.
func byName(windows map[string]impl.Window) iter.Seq2[string, impl.Window] {
	return func(yield func(name string, w impl.Window) bool) {
		for _, name := range slices.Sorted(maps.Keys(windows)) {
			if !yield(name, windows[name]) {
				return
			}
		}
	}
}

// allWindows are all the valid ones.
func allWindows() map[string]impl.Window {
	windows := validWindows()
	maps.Copy(windows, wholeWindows())
	maps.Copy(windows, apartWindows())
	return windows
}

// notWholeWindows are valid ones that are apart, and all that are not valid.
func notWholeWindows() map[string]impl.Window {
	windows := apartWindows()
	maps.Copy(windows, invalidWindows())
	return windows
}

func TestWindowsAreWhatTheyAreCalled(t *testing.T) {
	for name, w := range wholeWindows() {
		if !isPlane(w) || len(w.Leads) == 0 || slices.Contains(reachedFrom(w, 0), false) {
			t.Errorf("%s is not whole", name)
		}
	}
	for name, w := range apartWindows() {
		if !isPlane(w) || len(w.Leads) > 0 && !slices.Contains(reachedFrom(w, 0), false) {
			t.Errorf("%s is not valid, or it is whole", name)
		}
	}
}

// reachedFrom repeats all leads until they reach nothing new.
func reachedFrom(w impl.Window, k int) []bool {
	reached := make([]bool, len(w.Nodes))
	reached[k] = true
	for range w.Nodes {
		for _, l := range w.Leads {
			both := reached[l.From] || reached[l.To]
			reached[l.From], reached[l.To] = both, both
		}
	}
	return reached
}

// randomWhole returns a small window with a random part of all leads that fit,
// as soon as one of them hangs together.
func randomWhole(source *rand.Rand) impl.Window {
	for {
		w := impl.Window{}
		size := 2 + source.Intn(7)
		for len(w.Nodes) < size {
			n := impl.Node{X: source.Intn(6), Y: source.Intn(6)}
			if !slices.Contains(w.Nodes, n) {
				w.Nodes = append(w.Nodes, n)
			}
		}
		leads := allLeads(w.Nodes)
		source.Shuffle(len(leads), func(i, j int) { leads[i], leads[j] = leads[j], leads[i] })
		keep := 2 + source.Intn(9)
		for _, l := range leads {
			longer := withLead(w, l.From, l.To)
			if source.Intn(10) < keep && isPlane(longer) {
				w = longer
			}
		}
		if len(w.Leads) > 0 && !slices.Contains(reachedFrom(w, 0), false) {
			return w
		}
	}
}

// someWholeWindows adds random windows to the named ones.
func someWholeWindows(seed int64, count int) map[string]impl.Window {
	windows := wholeWindows()
	source := rand.New(rand.NewSource(seed))
	for i := range count {
		windows["random "+impl.FormatInt(i)] = randomWhole(source)
	}
	return windows
}

// overwrite replaces all that a list has, and all that is behind it.
func overwrite(list []int) {
	list = list[:cap(list)]
	for i := range list {
		list[i] = -7
	}
}

// copyOfLists keeps what a list of lists is now.
func copyOfLists(lists [][]int) [][]int {
	kept := [][]int{}
	for _, list := range lists {
		kept = append(kept, slices.Clone(list))
	}
	return kept
}

func sameLists(lists [][]int, others [][]int) bool {
	return slices.EqualFunc(lists, others, func(a, b []int) bool { return slices.Equal(a, b) })
}

// checkFresh overwrites the results of one call, one after the other, and looks
// at those that are left and at the results of another call.
func checkFresh(t *testing.T, name string, call func() [][]int) {
	t.Helper()
	first, second := call(), call()
	kept := copyOfLists(first)
	if !sameLists(second, kept) {
		t.Errorf("%s: a second call returns %v after %v", name, second, kept)
		return
	}
	for i := range second {
		overwrite(second[i])
		if !sameLists(second[i+1:], kept[i+1:]) {
			t.Errorf("%s: two lists of one result share memory", name)
		}
	}
	if !sameLists(first, kept) {
		t.Errorf("%s: two results share memory", name)
	}
}

// checkFreshWindow is checkFresh for a window.
func checkFreshWindow(t *testing.T, name string, call func() impl.Window) {
	t.Helper()
	first, second := call(), call()
	kept := cloneOf(first)
	if !sameWindow(second, kept) {
		t.Errorf("%s: a second call returns %v after %v", name, second, kept)
		return
	}
	scribble(second)
	if !sameWindow(first, kept) {
		t.Errorf("%s: two results share memory", name)
	}
}

// roomyList keeps numbers behind a list, where no function may write.
func roomyList(list []int) ([]int, func() bool) { return roomyOf(list, 3, 1, 4) }

// roomyOf is roomyList for a list of any kind.
func roomyOf[T comparable](list []T, behind ...T) ([]T, func() bool) {
	longer := append(slices.Clone(list), behind...)
	kept := slices.Clone(longer)
	return longer[:len(list)], func() bool { return slices.Equal(longer, kept) }
}

// checkFreshOf is checkFresh for one list of any kind.
func checkFreshOf[T comparable](t *testing.T, name string, junk T, call func() []T) {
	t.Helper()
	first, second := call(), call()
	kept := slices.Clone(first)
	if !slices.Equal(second, kept) {
		t.Errorf("%s: a second call returns %v after %v", name, second, kept)
		return
	}
	second = second[:cap(second)]
	for i := range second {
		second[i] = junk
	}
	if !slices.Equal(first, kept) {
		t.Errorf("%s: two results share memory", name)
	}
}

// facesWithin are all but the wall around.
func facesWithin(w impl.Window) []int {
	faces := []int{}
	for f := range facesByAngle(w) {
		if f != wallAround(w) {
			faces = append(faces, f)
		}
	}
	return faces
}
