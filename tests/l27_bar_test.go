package tests

import (
	"math/rand"
	"slices"
	"testing"

	"loop.example/g03303/impl"
)

// wrongBars are too many, out of range, equal or not in ascending order.
func wrongBars() [][]int {
	return [][]int{
		{0, 1, 2, 3, 4, 5, 6, 7, 8, 9, 10}, slices.Repeat([]int{4}, 100), // more than 10
		{-1}, {-1, 3}, {21}, {3, 21}, {20, 21}, {leastInt}, {greatestInt}, {leastInt, 4}, {4, greatestInt},
		{3, 3}, {0, 0}, {20, 20}, {1, 3, 3}, {1, 1, 3}, {4, 3}, {3, 1, 2}, {1, 2, 0}, {20, 0},
	}
}

// heightsByHand returns the least and the greatest Y of all nodes.
func heightsByHand(w impl.Window) (int, int) {
	low, high := boxAround(w, indicesOf(len(w.Nodes)))
	return low.Y, high.Y
}

// gapByHand marks each height of the window with a bar, and looks for the
// widest way from one mark to the next one.
func gapByHand(w impl.Window, bars []int) int {
	least, greatest := heightsByHand(w)
	widest, last := 0, least
	for y := least; y <= greatest; y++ {
		if y == greatest || slices.Contains(bars, y) {
			widest, last = max(widest, y-last), y
		}
	}
	return widest
}

func crossedByHand(w impl.Window, k int, bars []int) int {
	a, b := w.Nodes[w.Leads[k].From].Y, w.Nodes[w.Leads[k].To].Y
	count := 0
	for y := min(a, b); y <= max(a, b); y++ {
		if slices.Contains(bars, y) {
			count++
		}
	}
	return count
}

// randomBars are valid.
func randomBars(source *rand.Rand) []int {
	bars := source.Perm(21)[:source.Intn(11)]
	slices.Sort(bars)
	return bars
}

func TestBarsOk(t *testing.T) {
	for _, bars := range [][]int{nil, {}, {0}, {20}, {0, 20}, {3, 4, 5}, {0, 1, 2, 3, 4, 5, 6, 7, 8, 9}, {11, 12, 13, 14, 15, 16, 17, 18, 19, 20}} {
		if !impl.BarsOk(bars) {
			t.Errorf("BarsOk(%v) = false", bars)
		}
	}
	for _, bars := range wrongBars() {
		if impl.BarsOk(bars) {
			t.Errorf("BarsOk(%v) = true", bars)
		}
	}
}

func TestBarsByHand(t *testing.T) {
	windows := allWindows()
	cases := []struct {
		name, window string
		bars         []int
		gap          int
		crossed      []int
		unheld       []int
	}{
		{"no bars", "sample", nil, 8, []int{0, 0, 0, 0, 0, 0, 0, 0}, []int{0, 1, 2, 3, 4, 5, 6, 7}},
		{"a bar at a node", "sample", []int{4}, 4, []int{0, 1, 0, 1, 1, 1, 1, 1}, []int{0, 2}},
		{"bars at the lower and the upper end", "sample", []int{0, 8}, 8, []int{1, 2, 1, 2, 1, 1, 1, 1}, nil},
		{"bars between the nodes", "sample", []int{1, 2, 7}, 5, []int{0, 3, 0, 3, 2, 2, 1, 1}, []int{0, 2}},
		{"bars outside of the window", "sample", []int{9, 12, 20}, 8, []int{0, 0, 0, 0, 0, 0, 0, 0}, []int{0, 1, 2, 3, 4, 5, 6, 7}},
		{"one bar in it and one outside", "sample", []int{2, 20}, 6, []int{0, 1, 0, 1, 1, 1, 0, 0}, []int{0, 2, 6, 7}},
		{"a steep lead", "steep lead", []int{0, 5, 20}, 15, []int{3}, nil},
		{"bars at both ends of a steep lead", "steep lead", []int{0, 20}, 20, []int{2}, nil},
		{"a window that is not whole", "two leads", []int{1}, 1, []int{1, 1}, nil},
		{"level leads", "in a line", []int{0}, 0, []int{1, 1}, nil},
		{"level leads below a bar", "in a line", []int{1}, 0, []int{0, 0}, []int{0, 1}},
		{"one node", "one node", []int{4, 20}, 0, []int{}, nil},
		{"without leads", "no leads", []int{4, 9}, 11, []int{}, nil},
		{"ten bars", "one lead", []int{0, 2, 4, 6, 8, 10, 12, 14, 16, 18}, 2, []int{10}, nil},
	}
	for _, c := range cases {
		w := windows[c.window]
		if got := impl.WidestGap(w, c.bars); got != c.gap {
			t.Errorf("%s: WidestGap = %d; want %d", c.name, got, c.gap)
		}
		for k, want := range c.crossed {
			if got := impl.CrossedBy(w, k, c.bars); got != want {
				t.Errorf("%s: CrossedBy(%d) = %d; want %d", c.name, k, got, want)
			}
		}
		if got := impl.UnheldLeads(w, c.bars); !slices.Equal(got, c.unheld) || len(c.crossed) != len(w.Leads) {
			t.Errorf("%s: UnheldLeads = %v; want %v", c.name, got, c.unheld)
		}
	}
}

func TestWindowsAboveTheirBars(t *testing.T) {
	w := drawn([]int{0, 5, 9, 5, 4, 12}, 0, 1, 1, 2, 0, 2)
	cases := []struct {
		bars, unheld []int
		gap          int
	}{
		{nil, []int{0, 1, 2}, 7}, {[]int{4}, []int{0, 1, 2}, 7}, {[]int{13}, []int{0, 1, 2}, 7}, {[]int{0, 20}, []int{0, 1, 2}, 7},
		{[]int{5}, nil, 7}, {[]int{12}, []int{0}, 7}, {[]int{6}, []int{0}, 6}, {[]int{11}, []int{0}, 6}, {[]int{3, 8, 15}, []int{0}, 4},
	}
	for _, c := range cases {
		if got := impl.WidestGap(w, c.bars); got != c.gap {
			t.Errorf("WidestGap(%v) = %d; want %d", c.bars, got, c.gap)
		}
		if got := impl.UnheldLeads(w, c.bars); !slices.Equal(got, c.unheld) {
			t.Errorf("UnheldLeads(%v) = %v; want %v", c.bars, got, c.unheld)
		}
	}
	if got := impl.FewestBars(w, 3); !slices.Equal(got, []int{8, 11}) {
		t.Errorf("FewestBars(3) = %v; want 8 and 11", got)
	}
}

func TestFewestBarsByHand(t *testing.T) {
	windows := allWindows()
	cases := []struct {
		name, window string
		gap          int
		want         []int
	}{
		{"two bars", "sample", 3, []int{3, 6}},
		{"a gap that goes in evenly", "sample", 4, []int{4}},
		{"a gap of the whole height", "sample", 8, nil},
		{"a gap one less than the height", "sample", 7, []int{7}},
		{"a gap of 1", "sample", 1, []int{1, 2, 3, 4, 5, 6, 7}},
		{"a gap of MaxSide", "sample", 20, nil},
		{"a gap of MaxSide in the highest window", "one lead", 20, nil},
		{"a gap one less than MaxSide", "one lead", 19, []int{19}},
		{"nine bars", "one lead", 2, []int{2, 4, 6, 8, 10, 12, 14, 16, 18}},
		{"more than 10 bars", "one lead", 1, nil},
		{"a gap of 0", "sample", 0, nil},
		{"a negative gap", "sample", -1, nil},
		{"a gap of 21", "sample", 21, nil},
		{"the least gap", "sample", leastInt, nil},
		{"the greatest gap", "sample", greatestInt, nil},
		{"level nodes", "in a line", 1, nil},
		{"one node", "one node", 1, nil},
		{"without leads", "no leads", 7, []int{7, 14}},
	}
	for _, c := range cases {
		if got := impl.FewestBars(windows[c.window], c.gap); !slices.Equal(got, c.want) {
			t.Errorf("%s: FewestBars = %v; want %v", c.name, got, c.want)
		}
	}
}

func TestTenBarsAndEleven(t *testing.T) {
	eleven, twelve := drawn([]int{0, 0, 0, 11}, 0, 1), drawn([]int{0, 0, 0, 12}, 0, 1)
	if got := impl.FewestBars(eleven, 1); len(got) != 10 {
		t.Errorf("FewestBars of a height of 11 = %v; want 10 bars", got)
	}
	if got := impl.FewestBars(twelve, 1); len(got) != 0 {
		t.Errorf("FewestBars of a height of 12 = %v; want none", got)
	}
	top := drawn([]int{0, 9, 0, 20}, 0, 1)
	if got := impl.FewestBars(top, 1); !slices.Equal(got, []int{10, 11, 12, 13, 14, 15, 16, 17, 18, 19}) {
		t.Errorf("FewestBars at the upper end = %v", got)
	}
}

func TestFewerBarsLeaveAGapThatIsTooWide(t *testing.T) {
	source := rand.New(rand.NewSource(27))
	windows := allWindows()
	for i := range 60 {
		windows["random "+impl.FormatInt(i)] = randomWhole(source)
	}
	for name, w := range byName(windows) {
		least, greatest := heightsByHand(w)
		for gap := 1; gap <= 20; gap++ {
			bars := impl.FewestBars(w, gap)
			count := 0
			for (count+1)*gap < greatest-least {
				count++
			}
			if count > 10 {
				count = 0
			} else if got := impl.WidestGap(w, bars); got > gap {
				t.Errorf("%s: FewestBars(%d) = %v leaves a gap of %d", name, gap, bars, got)
			}
			if len(bars) != count || !impl.BarsOk(bars) {
				t.Errorf("%s: FewestBars(%d) = %v; want %d bars", name, gap, bars, count)
			}
			for i, bar := range bars {
				if bar != least+(i+1)*gap {
					t.Errorf("%s: FewestBars(%d) = %v; bar %d is at another height", name, gap, bars, i)
				}
			}
			if count > 0 && greatest-least <= 9 {
				checkFewer(t, name, w, gap, count-1)
			}
		}
	}
}

// checkFewer goes through all sets of a number of bars from 0 to 20 within the
// heights of the window.
func checkFewer(t *testing.T, name string, w impl.Window, gap int, count int) {
	t.Helper()
	least, greatest := heightsByHand(w)
	for number := range 1 << (greatest - least + 1) {
		bars := []int{}
		for _, i := range listOf(number) {
			bars = append(bars, least+i)
		}
		if len(bars) == count && impl.WidestGap(w, bars) <= gap {
			t.Errorf("%s: %v leaves no gap wider than %d", name, bars, gap)
		}
	}
}

func TestBarsOfRandomWindows(t *testing.T) {
	source := rand.New(rand.NewSource(270))
	for name, w := range byName(someWholeWindows(271, 150)) {
		for range 4 {
			bars := randomBars(source)
			if got, want := impl.WidestGap(w, bars), gapByHand(w, bars); got != want {
				t.Errorf("%s: WidestGap(%v) = %d; want %d", name, bars, got, want)
			}
			unheld := []int{}
			for k := range w.Leads {
				want := crossedByHand(w, k, bars)
				if got := impl.CrossedBy(w, k, bars); got != want {
					t.Errorf("%s: CrossedBy(%d, %v) = %d; want %d", name, k, bars, got, want)
				}
				if want == 0 {
					unheld = append(unheld, k)
				}
			}
			if got := impl.UnheldLeads(w, bars); !slices.Equal(got, unheld) {
				t.Errorf("%s: UnheldLeads(%v) = %v; want %v", name, bars, got, unheld)
			}
		}
	}
}

// checkNoBars needs a window or bars that are not valid.
func checkNoBars(t *testing.T, name string, w impl.Window, bars []int) {
	t.Helper()
	for k := -1; k <= len(w.Leads); k++ {
		if got := impl.CrossedBy(w, k, bars); got != -1 {
			t.Errorf("%s: CrossedBy(%d, %v) = %d; want -1", name, k, bars, got)
		}
	}
	if gap, unheld := impl.WidestGap(w, bars), impl.UnheldLeads(w, bars); gap != -1 || len(unheld) != 0 {
		t.Errorf("%s: WidestGap(%v) = %d and UnheldLeads = %v", name, bars, gap, unheld)
	}
}

func TestBarsAndWindowsThatAreNotValid(t *testing.T) {
	for name, w := range allWindows() {
		for _, bars := range wrongBars() {
			checkNoBars(t, name, w, bars)
		}
		for _, k := range wrongIndices(len(w.Leads)) {
			for _, bars := range [][]int{nil, {4}} {
				if got := impl.CrossedBy(w, k, bars); got != -1 {
					t.Errorf("%s: CrossedBy(%d, %v) = %d; want -1", name, k, bars, got)
				}
			}
		}
	}
	for name, w := range invalidWindows() {
		for _, bars := range [][]int{nil, {4}, {0, 20}} {
			checkNoBars(t, name, w, bars)
		}
		for gap := 1; gap <= 20; gap++ {
			if got := impl.FewestBars(w, gap); len(got) != 0 {
				t.Errorf("%s: FewestBars(%d) = %v; want nil", name, gap, got)
			}
		}
	}
}

func TestBarsLeaveArgumentsAsTheyAre(t *testing.T) {
	source := rand.New(rand.NewSource(272))
	for name, w := range byName(wholeWindows()) {
		roomy, isUntouched := roomyWindow(w)
		bars, areBarsUntouched := roomyList(randomBars(source))
		checkFresh(t, name+", chapter 27", func() [][]int {
			return [][]int{impl.FewestBars(roomy, 2), impl.UnheldLeads(roomy, bars)}
		})
		impl.BarsOk(bars)
		impl.CrossedBy(roomy, 0, bars)
		impl.WidestGap(roomy, bars)
		if !isUntouched() || !areBarsUntouched() {
			t.Errorf("%s: an argument is modified, or a result shares its memory", name)
		}
	}
}
