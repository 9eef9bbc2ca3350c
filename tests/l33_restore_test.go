package tests

import (
	"math/rand"
	"slices"
	"testing"

	"loop.example/g03303/impl"
)

// sharesNotOk, yearsNotOk and numbersNotOk are just past each limit, and the
// extreme ints. The year 0 is a number of a history, but no year of a new glass.
var (
	sharesNotOk  = []int{-1, 101, leastInt, greatestInt}
	yearsNotOk   = []int{0, -1, 3001, leastInt, greatestInt}
	numbersNotOk = []int{-1, 3001, leastInt, greatestInt}
)

// threeAndFour has two panes of twice the areas 3 and 4: face 0 is the one of 4.
func threeAndFour() impl.Window {
	return drawn([]int{0, 0, 0, 4, 0, 7, 1, 4}, 0, 3, 0, 1, 1, 2, 2, 3, 1, 3)
}

func firstAreaByHand(w impl.Window, history []int) int {
	area := 0
	for _, f := range facesWithin(w) {
		if history[f] == 0 {
			area += areaByHand(w, f)
		}
	}
	return area
}

// mayReplaceByHand is for a face within the window, and a share in its range.
func mayReplaceByHand(w impl.Window, history []int, f int, share int) bool {
	rest := firstAreaByHand(w, changed(history, f, 1))
	return history[f] > 0 || 100*rest >= share*totalByStrips(w)
}

// randomHistory often has the first glass, and equal years.
func randomHistory(source *rand.Rand, faces int) []int {
	history := make([]int, faces)
	for f := range history {
		if source.Intn(2) == 0 {
			history[f] = []int{1, 1900, 1950, 3000, 1 + source.Intn(3000)}[source.Intn(5)]
		}
	}
	return history
}

// wrongHistories do not have one number from 0 to 3000 for each face.
func wrongHistories(faces int) [][]int {
	lists := [][]int{nil, make([]int, faces-1), make([]int, faces+1), make([]int, 100)}
	for f := range faces {
		for _, wrong := range numbersNotOk {
			lists = append(lists, changed(make([]int, faces), f, wrong))
		}
	}
	return lists
}

func TestRestorationByHand(t *testing.T) {
	whole := wholeWindows()
	cases := []struct {
		name, window string
		history      []int
		area         int
		oldest       []int
	}{
		{"all first glass", "sample", []int{0, 0, 0, 0, 0}, 128, []int{0, 2, 3, 4}},
		{"one face replaced", "sample", []int{0, 0, 0, 1900, 0}, 96, []int{0, 2, 4}},
		{"all but one replaced", "sample", []int{1900, 0, 1901, 0, 3000}, 32, []int{3}},
		{"all replaced", "sample", []int{1900, 0, 1901, 1900, 3000}, 0, []int{0, 3}},
		{"all replaced in the last year", "sample", []int{3000, 3000, 3000, 3000, 3000}, 0, []int{0, 2, 3, 4}},
		{"the wall around does not count", "sample", []int{0, 1900, 0, 0, 0}, 128, []int{0, 2, 3, 4}},
		{"a tree", "path", []int{0}, 0, nil},
		{"a tree with a year", "path", []int{5}, 0, nil},
		{"faces of different areas", "hanging pane", []int{0, 0, 7}, 496, []int{0}},
	}
	for _, c := range cases {
		w := whole[c.window]
		if !impl.HistoryOk(w, c.history) {
			t.Errorf("%s: HistoryOk = false", c.name)
		}
		if got := impl.OriginalArea(w, c.history); got != c.area {
			t.Errorf("%s: OriginalArea = %d; want %d", c.name, got, c.area)
		}
		if got := impl.OldestFaces(w, c.history); !slices.Equal(got, c.oldest) {
			t.Errorf("%s: OldestFaces = %v; want %v", c.name, got, c.oldest)
		}
	}
}

func TestSharesAtTheLimit(t *testing.T) {
	sample, first := impl.SampleWindow(), []int{0, 0, 0, 0, 0}
	cases := []struct {
		name     string
		w        impl.Window
		history  []int
		f, share int
		want     bool
	}{
		{"kept just so", sample, first, 0, 75, true},
		{"one more", sample, first, 0, 76, false},
		{"no share", sample, first, 0, 0, true},
		{"the whole share", sample, first, 0, 100, false},
		{"the last first glass, with no share", sample, []int{9, 9, 9, 9, 0}, 4, 0, true},
		{"the last first glass, with the least share", sample, []int{9, 9, 9, 9, 0}, 4, 1, false},
		{"replaced before, with the whole share", sample, []int{9, 0, 0, 0, 0}, 0, 100, true},
		{"replaced before, with too little first glass", sample, []int{9, 9, 9, 9, 9}, 0, 100, true},
		{"another one was replaced before", sample, []int{9, 0, 0, 0, 0}, 2, 50, true},
		{"another one was replaced before, and one more", sample, []int{9, 0, 0, 0, 0}, 2, 51, false},
		{"missed by the least", threeAndFour(), []int{0, 0, 0}, 0, 43, false},      // 300 of 301
		{"not missed any more", threeAndFour(), []int{0, 0, 0}, 0, 42, true},       // 300 of 294
		{"kept by the least", threeAndFour(), []int{0, 0, 0}, 2, 57, true},         // 400 of 399
		{"not kept any more", threeAndFour(), []int{0, 0, 0}, 2, 58, false},        // 400 of 406
		{"the wall around", sample, first, 1, 0, false},                            //
		{"the wall around with a year", sample, []int{0, 9, 0, 0, 0}, 1, 0, false}, //
	}
	for _, c := range cases {
		if got := impl.MayReplace(c.w, c.history, c.f, c.share); got != c.want {
			t.Errorf("%s: MayReplace = %v", c.name, got)
		}
		year := max(c.history[c.f], 1)
		want := c.history
		if c.want {
			want = changed(c.history, c.f, year)
		}
		if got, ok := impl.ReplaceFace(c.w, c.history, c.f, year, c.share); ok != c.want || !slices.Equal(got, want) {
			t.Errorf("%s: ReplaceFace = %v, %v; want %v, %v", c.name, got, ok, want, c.want)
		}
	}
}

func TestYearsOfReplacement(t *testing.T) {
	w, history := impl.SampleWindow(), []int{0, 0, 0, 1900, 0}
	cases := []struct {
		f, year int
		ok      bool
	}{
		{3, 1899, false}, {3, 1900, true}, {3, 1901, true}, {3, 1, false}, {3, 3000, true}, {3, 3001, false},
		{0, 1, true}, {0, 3000, true}, {0, 3001, false}, {0, 0, false}, {0, -1, false}, {0, 1899, true},
	}
	for _, c := range cases {
		want := history
		if c.ok {
			want = changed(history, c.f, c.year)
		}
		if got, ok := impl.ReplaceFace(w, history, c.f, c.year, 50); ok != c.ok || !slices.Equal(got, want) {
			t.Errorf("ReplaceFace(%d, %d) = %v, %v; want %v, %v", c.f, c.year, got, ok, want, c.ok)
		}
	}
	last := []int{3000, 0, 0, 0, 0}
	if got, ok := impl.ReplaceFace(w, last, 0, 3000, 100); !ok || !slices.Equal(got, last) {
		t.Errorf("ReplaceFace in the last year again = %v, %v", got, ok)
	}
}

func TestRestorationOfRandomWindows(t *testing.T) {
	source := rand.New(rand.NewSource(33))
	for name, w := range byName(someWholeWindows(331, 80)) {
		history := randomHistory(source, len(facesByAngle(w)))
		if got, want := impl.OriginalArea(w, history), firstAreaByHand(w, history); got != want || !impl.HistoryOk(w, history) {
			t.Errorf("%s: OriginalArea(%v) = %d; want %d", name, history, got, want)
		}
		within := facesWithin(w)
		oldest := slices.DeleteFunc(slices.Clone(within), func(f int) bool {
			return slices.ContainsFunc(within, func(g int) bool { return history[g] < history[f] })
		})
		if got := impl.OldestFaces(w, history); !slices.Equal(got, oldest) {
			t.Errorf("%s: OldestFaces(%v) = %v; want %v", name, history, got, oldest)
		}
		for _, f := range within {
			for _, share := range []int{0, 1, 25, 50, 75, 99, 100, source.Intn(101)} {
				want := mayReplaceByHand(w, history, f, share)
				if got := impl.MayReplace(w, history, f, share); got != want {
					t.Errorf("%s: MayReplace(%v, %d, %d) = %v", name, history, f, share, got)
				}
			}
		}
	}
}

func TestTheShareOfFirstGlassStays(t *testing.T) {
	source := rand.New(rand.NewSource(330))
	for name, w := range byName(someWholeWindows(332, 40)) {
		faces := len(facesByAngle(w))
		share := source.Intn(101)
		history := make([]int, faces)
		for year := 1; year <= 40; year++ {
			f := source.Intn(faces)
			later, ok := impl.ReplaceFace(w, history, f, year, share)
			may := f != wallAround(w) && mayReplaceByHand(w, history, f, share)
			want := history
			if may {
				want = changed(history, f, year)
			}
			if ok != may || !slices.Equal(later, want) {
				t.Errorf("%s: ReplaceFace(%v, %d, %d, %d) = %v, %v", name, history, f, year, share, later, ok)
			}
			history = later
			if 100*firstAreaByHand(w, history) < share*totalByStrips(w) {
				t.Errorf("%s: less than the share %d of %v is left", name, share, history)
			}
		}
		// With nothing more to replace, each first glass left is needed.
		for _, f := range facesWithin(w) {
			history, _ = impl.ReplaceFace(w, history, f, 3000, share)
		}
		for _, f := range facesWithin(w) {
			if history[f] == 0 && mayReplaceByHand(w, history, f, share) {
				t.Errorf("%s: face %d of %v could be replaced", name, f, history)
			}
		}
	}
}

func TestReplacedAfter(t *testing.T) {
	cases := []struct {
		history []int
		year    int
		want    []int
	}{
		{[]int{1950, 0, 0, 1900, 0}, 1920, []int{0}},
		{[]int{1950, 0, 0, 1900, 0}, 1899, []int{0, 3}},
		{[]int{1950, 0, 0, 1900, 0}, 1900, []int{0}},
		{[]int{1950, 0, 0, 1900, 0}, 1950, nil},
		{[]int{1950, 0, 0, 1900, 0}, 0, []int{0, 3}},
		{[]int{1950, 0, 0, 1900, 0}, -1, []int{0, 1, 2, 3, 4}},
		{nil, 0, nil}, {[]int{}, -1, nil},
		{[]int{leastInt, greatestInt, -5}, -5, []int{1}},
		{[]int{leastInt, greatestInt, -5}, leastInt, []int{1, 2}},
		{[]int{leastInt, greatestInt, -5}, greatestInt, nil},
		{slices.Repeat([]int{3001}, 30), 3000, indicesOf(30)},
	}
	for _, c := range cases {
		if got := impl.ReplacedAfter(c.history, c.year); !slices.Equal(got, c.want) {
			t.Errorf("ReplacedAfter(%v, %d) = %v; want %v", c.history, c.year, got, c.want)
		}
	}
}

// checkNotReplaced needs an argument that is not valid, or a face that cannot be
// replaced.
func checkNotReplaced(t *testing.T, name string, w impl.Window, history []int, f int, share int) {
	t.Helper()
	if impl.MayReplace(w, history, f, share) {
		t.Errorf("%s: MayReplace(%v, %d, %d) = true", name, history, f, share)
	}
	if got, ok := impl.ReplaceFace(w, history, f, 3000, share); ok || !slices.Equal(got, history) {
		t.Errorf("%s: ReplaceFace(%v, %d, %d) = %v, %v; want the same history", name, history, f, share, got, ok)
	}
}

func checkNoHistory(t *testing.T, name string, w impl.Window, history []int) {
	t.Helper()
	if impl.HistoryOk(w, history) {
		t.Errorf("%s: HistoryOk(%v) = true", name, history)
	}
	if area, oldest := impl.OriginalArea(w, history), impl.OldestFaces(w, history); area != -1 || len(oldest) != 0 {
		t.Errorf("%s: OriginalArea(%v) = %d and OldestFaces = %v", name, history, area, oldest)
	}
	for f := -1; f <= len(history); f++ {
		checkNotReplaced(t, name, w, history, f, 0)
	}
}

func TestHistoriesThatAreNotValid(t *testing.T) {
	for name, w := range byName(wholeWindows()) {
		for _, history := range wrongHistories(len(facesByAngle(w))) {
			checkNoHistory(t, name, w, history)
		}
	}
	for name, w := range byName(notWholeWindows()) {
		for count := range 14 {
			checkNoHistory(t, name, w, make([]int, count))
		}
	}
}

func TestFacesAndSharesThatAreNotValid(t *testing.T) {
	for name, w := range byName(wholeWindows()) {
		for _, number := range []int{0, 1, 1900} {
			history := slices.Repeat([]int{number}, len(facesByAngle(w)))
			for _, f := range append(wrongIndices(len(history)), wallAround(w)) {
				for _, share := range []int{0, 50, 100} {
					checkNotReplaced(t, name, w, history, f, share)
				}
			}
			for _, f := range facesWithin(w) {
				for _, share := range sharesNotOk {
					checkNotReplaced(t, name, w, history, f, share)
				}
				for _, year := range yearsNotOk {
					if got, ok := impl.ReplaceFace(w, history, f, year, 0); ok || !slices.Equal(got, history) {
						t.Errorf("%s: ReplaceFace(%d) in the year %d = %v, %v", name, f, year, got, ok)
					}
				}
			}
		}
	}
}

func TestRestorationLeavesArgumentsAsTheyAre(t *testing.T) {
	source := rand.New(rand.NewSource(333))
	for name, w := range byName(wholeWindows()) {
		roomy, isUntouched := roomyWindow(w)
		history, isHistoryUntouched := roomyList(randomHistory(source, len(facesByAngle(w))))
		for f := -1; f <= len(history); f++ {
			checkFresh(t, name+", ReplaceFace", func() [][]int {
				later, _ := impl.ReplaceFace(roomy, history, f, 3000, 0)
				return [][]int{later}
			})
		}
		checkFresh(t, name+", chapter 33", func() [][]int {
			return [][]int{impl.OldestFaces(roomy, history), impl.ReplacedAfter(history, 0)}
		})
		impl.HistoryOk(roomy, history)
		impl.OriginalArea(roomy, history)
		impl.MayReplace(roomy, history, 0, 50)
		if !isUntouched() || !isHistoryUntouched() {
			t.Errorf("%s: an argument is modified, or a result shares its memory", name)
		}
	}
}
