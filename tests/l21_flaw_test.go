package tests

import (
	"iter"
	"math/rand"
	"slices"
	"testing"

	"loop.example/g03303/impl"
)

// flawedOf reads the places of the spots in pairs.
func flawedOf(width int, height int, places ...int) impl.Flawed {
	return impl.Flawed{Sheet: impl.Sheet{Width: width, Height: height}, Spots: placesOf(places...)}
}

// squaresOf yields the squares of a rectangle.
func squaresOf(at impl.Node, p impl.Sheet) iter.Seq[impl.Node] {
	return func(yield func(square impl.Node) bool) {
		for square := range p.Width * p.Height {
			if !yield(impl.Node{X: at.X + square%p.Width, Y: at.Y + square/p.Width}) {
				return
			}
		}
	}
}

// isClearByHand looks at each square of the rectangle.
func isClearByHand(x impl.Flawed, at impl.Node, p impl.Sheet) bool {
	for n := range squaresOf(at, p) {
		isInside := n.X >= 0 && n.Y >= 0 && n.X < x.Sheet.Width && n.Y < x.Sheet.Height
		if !isInside || slices.Contains(x.Spots, n) {
			return false
		}
	}
	return true
}

func firstClearByHand(x impl.Flawed, p impl.Sheet) (impl.Node, bool) {
	for place := range x.Sheet.Width * x.Sheet.Height {
		at := impl.Node{X: place % x.Sheet.Width, Y: place / x.Sheet.Width}
		if isClearByHand(x, at, p) {
			return at, true
		}
	}
	return impl.Node{}, false
}

func largestByHand(x impl.Flawed) int {
	largest := 0
	for width := 1; width <= x.Sheet.Width; width++ {
		for height := 1; height <= x.Sheet.Height; height++ {
			if _, ok := firstClearByHand(x, impl.Sheet{Width: width, Height: height}); ok {
				largest = max(largest, width*height)
			}
		}
	}
	return largest
}

func spotsByHand(x impl.Flawed, at impl.Node, p impl.Sheet) int {
	count := 0
	for square := range squaresOf(at, p) {
		if slices.Contains(x.Spots, square) {
			count++
		}
	}
	return count
}

// randomFlawed takes some places twice.
func randomFlawed(source *rand.Rand, size int) impl.Flawed {
	x := impl.Flawed{Sheet: randomSheet(source, size)}
	for range source.Intn(13) {
		x.Spots = append(x.Spots, impl.Node{X: source.Intn(x.Sheet.Width), Y: source.Intn(x.Sheet.Height)})
	}
	return x
}

// wrongFlawed are not valid.
func wrongFlawed() []impl.Flawed {
	wrong := []impl.Flawed{
		{},
		{Spots: []impl.Node{{}}},
		{Sheet: impl.Sheet{Width: 4, Height: 3}, Spots: make([]impl.Node, 13)},
		{Sheet: impl.Sheet{Width: 40, Height: 40}, Spots: gridOf(4, 2)[:13]},
		{Sheet: impl.Sheet{Width: 4, Height: 3}, Spots: make([]impl.Node, 1000)},
		flawedOf(4, 3, 4, 0), flawedOf(4, 3, 0, 3), flawedOf(4, 3, 4, 3), flawedOf(4, 3, -1, 0), flawedOf(4, 3, 0, -1), flawedOf(4, 3, 3, 4),
		flawedOf(4, 3, 0, 0, 1, 1, 4, 0), flawedOf(4, 3, 0, 0, 1, 1, 0, -1), flawedOf(1, 1, 1, 0), flawedOf(40, 40, 40, 0), flawedOf(40, 40, 0, 40),
		flawedOf(4, 3, leastInt, 0), flawedOf(4, 3, 0, leastInt), flawedOf(4, 3, greatestInt, 0), flawedOf(4, 3, 0, greatestInt),
	}
	for _, s := range sheetsNotOk {
		wrong = append(wrong, impl.Flawed{Sheet: s}, impl.Flawed{Sheet: s, Spots: []impl.Node{{}}})
	}
	return wrong
}

func TestFlawedOk(t *testing.T) {
	fine := []impl.Flawed{
		flawedOf(1, 1), flawedOf(1, 1, 0, 0), flawedOf(40, 40), flawedOf(40, 40, 39, 39, 0, 0, 39, 0, 0, 39), flawedOf(4, 3, 3, 2),
		flawedOf(4, 3, 3, 2, 3, 2, 3, 2), // the same spot three times
		flawedOf(40, 30, 25, 28),         // off the board of nodes
		{Sheet: impl.Sheet{Width: 4, Height: 3}, Spots: make([]impl.Node, 12)},
		{Sheet: impl.Sheet{Width: 40, Height: 40}, Spots: gridOf(4, 2)[:12]},
	}
	for _, x := range fine {
		if !impl.FlawedOk(x) {
			t.Errorf("FlawedOk(%v) = false", x)
		}
	}
	for _, x := range wrongFlawed() {
		if impl.FlawedOk(x) {
			t.Errorf("FlawedOk(%v) = true", x)
		}
	}
}

func TestClearPlacesByHand(t *testing.T) {
	cases := []struct {
		name    string
		x       impl.Flawed
		p       impl.Sheet
		place   impl.Node
		ok      bool
		largest int
	}{
		{"one square", flawedOf(1, 1), impl.Sheet{Width: 1, Height: 1}, impl.Node{}, true, 1},
		{"one square with a spot", flawedOf(1, 1, 0, 0), impl.Sheet{Width: 1, Height: 1}, impl.Node{}, false, 0},
		{"the whole sheet", flawedOf(40, 40), impl.Sheet{Width: 40, Height: 40}, impl.Node{}, true, 1600},
		{"the last square is spoiled", flawedOf(40, 40, 39, 39), impl.Sheet{Width: 40, Height: 40}, impl.Node{}, false, 1560},
		{"right of a spot", flawedOf(4, 3, 1, 1), impl.Sheet{Width: 2, Height: 2}, impl.Node{X: 2}, true, 6},
		{"above a spot", flawedOf(4, 3, 1, 1), impl.Sheet{Width: 4, Height: 1}, impl.Node{}, true, 6},
		{"above a lower spot", flawedOf(4, 3, 1, 0), impl.Sheet{Width: 4, Height: 1}, impl.Node{Y: 1}, true, 8},
		{"a lower place further right", flawedOf(6, 3, 0, 0), impl.Sheet{Width: 1, Height: 1}, impl.Node{X: 1}, true, 15},
		{"no place", flawedOf(4, 3, 1, 1), impl.Sheet{Width: 4, Height: 2}, impl.Node{}, false, 6},
		{"wider than the sheet", flawedOf(4, 3), impl.Sheet{Width: 5, Height: 1}, impl.Node{}, false, 12},
		{"higher than the sheet", flawedOf(4, 3), impl.Sheet{Width: 1, Height: 4}, impl.Node{}, false, 12},
		{"only the last place", flawedOf(3, 3, 0, 0, 1, 0, 2, 0, 0, 1, 0, 2), impl.Sheet{Width: 2, Height: 2}, impl.Node{X: 1, Y: 1}, true, 4},
		{"all squares spoiled", flawedOf(3, 2, 0, 0, 1, 0, 2, 0, 0, 1, 1, 1, 2, 1), impl.Sheet{Width: 1, Height: 1}, impl.Node{}, false, 0},
		{"the same spot twice", flawedOf(3, 1, 1, 0, 1, 0), impl.Sheet{Width: 1, Height: 1}, impl.Node{}, true, 1},
		{"a spot at each corner", flawedOf(5, 4, 0, 0, 4, 0, 0, 3, 4, 3), impl.Sheet{Width: 5, Height: 2}, impl.Node{Y: 1}, true, 12},
	}
	for _, c := range cases {
		if got, ok := impl.FirstClear(c.x, c.p); got != c.place || ok != c.ok {
			t.Errorf("%s: FirstClear = %v, %v; want %v, %v", c.name, got, ok, c.place, c.ok)
		}
		if got := impl.LargestClear(c.x); got != c.largest {
			t.Errorf("%s: LargestClear = %d; want %d", c.name, got, c.largest)
		}
	}
}

func TestSpotsAtTheBorder(t *testing.T) {
	x, p := flawedOf(12, 12, 5, 5), impl.Sheet{Width: 3, Height: 4}
	cases := []struct {
		at     impl.Node
		inside bool
	}{
		{impl.Node{X: 5, Y: 5}, true}, {impl.Node{X: 3, Y: 2}, true}, {impl.Node{X: 3, Y: 5}, true}, {impl.Node{X: 5, Y: 2}, true},
		{impl.Node{X: 6, Y: 5}, false}, {impl.Node{X: 2, Y: 5}, false}, {impl.Node{X: 5, Y: 6}, false}, {impl.Node{X: 5, Y: 1}, false},
		{impl.Node{X: 2, Y: 1}, false}, {impl.Node{X: 6, Y: 6}, false},
	}
	for _, c := range cases {
		if got := impl.IsClear(x, c.at, p); got == c.inside {
			t.Errorf("IsClear at %v = %v", c.at, got)
		}
		if got := impl.CountSpots(x, c.at, p) == 1; got != c.inside {
			t.Errorf("CountSpots at %v = %d", c.at, impl.CountSpots(x, c.at, p))
		}
	}
}

func TestRectanglesThatLeaveTheSheet(t *testing.T) {
	x := flawedOf(10, 6)
	cases := []struct {
		at   impl.Node
		p    impl.Sheet
		want bool
	}{
		{impl.Node{}, impl.Sheet{Width: 10, Height: 6}, true},
		{impl.Node{X: 7, Y: 2}, impl.Sheet{Width: 3, Height: 4}, true},
		{impl.Node{X: 9, Y: 5}, impl.Sheet{Width: 1, Height: 1}, true},
		{impl.Node{X: 8, Y: 2}, impl.Sheet{Width: 3, Height: 4}, false},
		{impl.Node{X: 7, Y: 3}, impl.Sheet{Width: 3, Height: 4}, false},
		{impl.Node{X: 10, Y: 0}, impl.Sheet{Width: 1, Height: 1}, false},
		{impl.Node{X: 0, Y: 6}, impl.Sheet{Width: 1, Height: 1}, false},
		{impl.Node{X: -1, Y: 0}, impl.Sheet{Width: 3, Height: 4}, false},
		{impl.Node{X: 0, Y: -1}, impl.Sheet{Width: 3, Height: 4}, false},
		{impl.Node{X: -5, Y: -5}, impl.Sheet{Width: 1, Height: 1}, false},
		{impl.Node{}, impl.Sheet{Width: 11, Height: 6}, false},
		{impl.Node{}, impl.Sheet{Width: 10, Height: 7}, false},
		{impl.Node{X: greatestInt}, impl.Sheet{Width: 1, Height: 1}, false},
		{impl.Node{Y: greatestInt}, impl.Sheet{Width: 40, Height: 40}, false},
		{impl.Node{X: leastInt, Y: leastInt}, impl.Sheet{Width: 1, Height: 1}, false},
	}
	for _, c := range cases {
		if got := impl.IsClear(x, c.at, c.p); got != c.want {
			t.Errorf("IsClear(%v, %v) = %v", c.at, c.p, got)
		}
	}
}

// checkFlawed compares all that chapter 21 says of one sheet and one rectangle.
func checkFlawed(t *testing.T, x impl.Flawed, p impl.Sheet) {
	t.Helper()
	for right := -2; right <= x.Sheet.Width+1; right++ {
		for up := -2; up <= x.Sheet.Height+1; up++ {
			at := impl.Node{X: right, Y: up}
			if got := impl.IsClear(x, at, p); got != isClearByHand(x, at, p) {
				t.Errorf("IsClear(%v, %v, %v) = %v", x, at, p, got)
			}
			if got, want := impl.CountSpots(x, at, p), spotsByHand(x, at, p); got != want {
				t.Errorf("CountSpots(%v, %v, %v) = %d; want %d", x, at, p, got, want)
			}
		}
	}
	want, isThere := firstClearByHand(x, p)
	if got, ok := impl.FirstClear(x, p); got != want || ok != isThere {
		t.Errorf("FirstClear(%v, %v) = %v, %v; want %v, %v", x, p, got, ok, want, isThere)
	}
	if got, want := impl.LargestClear(x), largestByHand(x); got != want {
		t.Errorf("LargestClear(%v) = %d; want %d", x, got, want)
	}
}

func TestClearPlacesSquareBySquare(t *testing.T) {
	source := rand.New(rand.NewSource(21))
	for range 150 {
		checkFlawed(t, randomFlawed(source, 8), randomSheet(source, 5))
	}
	for range 4 {
		x, p := randomFlawed(source, 40), randomSheet(source, 20)
		want, isThere := firstClearByHand(x, p)
		if got, ok := impl.FirstClear(x, p); got != want || ok != isThere {
			t.Errorf("FirstClear(%v, %v) = %v, %v; want %v, %v", x, p, got, ok, want, isThere)
		}
	}
}

func TestTheFirstClearPlaceHasNoSpots(t *testing.T) {
	source := rand.New(rand.NewSource(210))
	found := 0
	for range 500 {
		x, p := randomFlawed(source, 20), randomSheet(source, 10)
		at, ok := impl.FirstClear(x, p)
		if !ok {
			continue
		}
		found++
		if !impl.IsClear(x, at, p) || impl.CountSpots(x, at, p) != 0 || p.Width*p.Height > impl.LargestClear(x) {
			t.Errorf("FirstClear(%v, %v) = %v, which is not clear", x, p, at)
		}
	}
	if found < 100 || found > 450 {
		t.Error("too few rectangles find a place, or too many:", found)
	}
}

func TestAnotherSpotNeverHelps(t *testing.T) {
	source := rand.New(rand.NewSource(211))
	for range 300 {
		x, p := randomFlawed(source, 12), randomSheet(source, 6)
		if len(x.Spots) == 12 {
			continue
		}
		worse := impl.Flawed{Sheet: x.Sheet, Spots: append(slices.Clone(x.Spots), impl.Node{X: source.Intn(x.Sheet.Width), Y: source.Intn(x.Sheet.Height)})}
		if impl.LargestClear(worse) > impl.LargestClear(x) {
			t.Errorf("LargestClear(%v) is greater than that of %v", worse, x)
		}
		before, ok := impl.FirstClear(x, p)
		after, isStillThere := impl.FirstClear(worse, p)
		isSooner := after.Y < before.Y || after.Y == before.Y && after.X < before.X
		if isStillThere && (!ok || isSooner) {
			t.Errorf("FirstClear(%v, %v) = %v, %v, but it was %v, %v", worse, p, after, isStillThere, before, ok)
		}
		whole := impl.CountSpots(worse, impl.Node{}, x.Sheet)
		if old := impl.CountSpots(x, impl.Node{}, x.Sheet); whole < old || whole > old+1 {
			t.Errorf("CountSpots(%v) = %d after %d", worse, whole, old)
		}
	}
}

func TestCountSpotsByHand(t *testing.T) {
	x := flawedOf(40, 40, 0, 0, 39, 39, 0, 0, 5, 7, 5, 7, 5, 7)
	all := impl.Sheet{Width: greatestInt, Height: greatestInt}
	cases := []struct {
		name string
		at   impl.Node
		p    impl.Sheet
		want int
	}{
		{"the whole sheet", impl.Node{}, impl.Sheet{Width: 40, Height: 40}, 3},
		{"all but the last column", impl.Node{}, impl.Sheet{Width: 39, Height: 40}, 2},
		{"all but the last row", impl.Node{}, impl.Sheet{Width: 40, Height: 39}, 2},
		{"all but the first column", impl.Node{X: 1}, impl.Sheet{Width: 40, Height: 40}, 2},
		{"one square", impl.Node{X: 5, Y: 7}, impl.Sheet{Width: 1, Height: 1}, 1},
		{"a square beside", impl.Node{X: 6, Y: 7}, impl.Sheet{Width: 1, Height: 1}, 0},
		{"no width", impl.Node{X: 5, Y: 7}, impl.Sheet{Width: 0, Height: 1}, 0},
		{"no height", impl.Node{X: 5, Y: 7}, impl.Sheet{Width: 1, Height: 0}, 0},
		{"a negative width", impl.Node{X: 6, Y: 7}, impl.Sheet{Width: -2, Height: 1}, 0},
		{"the least width", impl.Node{X: 6, Y: 7}, impl.Sheet{Width: leastInt, Height: leastInt}, 0},
		{"larger than any sheet", impl.Node{}, impl.Sheet{Width: 41, Height: 1000}, 3},
		{"larger than all", impl.Node{}, all, 3},
		{"larger than all, from the left", impl.Node{X: -1000, Y: -1000}, all, 3},
		{"larger than all, from the right", impl.Node{X: 6, Y: 8}, all, 1},
		{"X of -1000, just reached", impl.Node{X: -1000}, impl.Sheet{Width: 1001, Height: 1}, 1},
		{"X of -1000, not reached", impl.Node{X: -1000}, impl.Sheet{Width: 1000, Height: 1}, 0},
		{"Y of -1000, just reached", impl.Node{Y: -1000}, impl.Sheet{Width: 1, Height: 1001}, 1},
		{"Y of -1000, not reached", impl.Node{Y: -1000}, impl.Sheet{Width: 1, Height: 1000}, 0},
		{"X of -1001", impl.Node{X: -1001}, all, 0},
		{"Y of -1001", impl.Node{Y: -1001}, all, 0},
		{"X of 1000", impl.Node{X: 1000}, all, 0},
		{"X of 1001", impl.Node{X: 1001}, all, 0},
		{"Y of 1000", impl.Node{Y: 1000}, all, 0},
		{"Y of 1001", impl.Node{Y: 1001}, all, 0},
		{"the least X", impl.Node{X: leastInt}, all, 0},
		{"the least Y", impl.Node{Y: leastInt}, all, 0},
		{"the greatest X", impl.Node{X: greatestInt}, all, 0},
		{"the greatest Y", impl.Node{Y: greatestInt}, all, 0},
	}
	for _, c := range cases {
		if got := impl.CountSpots(x, c.at, c.p); got != c.want {
			t.Errorf("%s: CountSpots = %d; want %d", c.name, got, c.want)
		}
	}
}

func TestFlawsThatAreNotValid(t *testing.T) {
	p := impl.Sheet{Width: 1, Height: 1}
	for _, x := range wrongFlawed() {
		if impl.IsClear(x, impl.Node{X: 2, Y: 1}, p) || impl.IsClear(x, impl.Node{}, p) {
			t.Errorf("IsClear(%v) = true", x)
		}
		if got, ok := impl.FirstClear(x, p); ok || got != (impl.Node{}) {
			t.Errorf("FirstClear(%v) = %v, %v", x, got, ok)
		}
		if got := impl.LargestClear(x); got != 0 {
			t.Errorf("LargestClear(%v) = %d; want 0", x, got)
		}
		if got := impl.CountSpots(x, impl.Node{}, impl.Sheet{Width: 40, Height: 40}); got != 0 {
			t.Errorf("CountSpots(%v) = %d; want 0", x, got)
		}
	}
	for _, wrong := range sheetsNotOk {
		x := flawedOf(40, 40)
		if impl.IsClear(x, impl.Node{}, wrong) || impl.IsClear(x, impl.Node{X: 7, Y: 7}, wrong) {
			t.Errorf("IsClear of the rectangle %v = true", wrong)
		}
		if got, ok := impl.FirstClear(x, wrong); ok || got != (impl.Node{}) {
			t.Errorf("FirstClear of the rectangle %v = %v, %v", wrong, got, ok)
		}
	}
}

func TestTwelveSpots(t *testing.T) {
	x := impl.Flawed{Sheet: impl.Sheet{Width: 40, Height: 40}, Spots: gridOf(4, 10)[:12]}
	if got := impl.CountSpots(x, impl.Node{}, x.Sheet); got != 12 {
		t.Errorf("CountSpots = %d; want 12", got)
	}
	// Above all spots, 19 rows are left.
	if got := impl.LargestClear(x); got != 760 {
		t.Errorf("LargestClear = %d; want 760", got)
	}
	x.Spots = append(x.Spots, impl.Node{X: 39, Y: 39})
	if count, largest := impl.CountSpots(x, impl.Node{}, x.Sheet), impl.LargestClear(x); count != 0 || largest != 0 {
		t.Errorf("with 13 spots CountSpots = %d and LargestClear = %d", count, largest)
	}
}

func TestFlawsLeaveArgumentsAsTheyAre(t *testing.T) {
	source := rand.New(rand.NewSource(212))
	for range 50 {
		x, p := randomFlawed(source, 10), randomSheet(source, 5)
		spots, areUntouched := roomyOf(x.Spots, impl.Node{X: 1, Y: 1}, impl.Node{X: 2, Y: 1})
		x.Spots = spots
		place, ok := impl.FirstClear(x, p)
		impl.FlawedOk(x)
		impl.IsClear(x, place, p)
		largest, count := impl.LargestClear(x), impl.CountSpots(x, impl.Node{}, x.Sheet)
		again, isThere := impl.FirstClear(x, p)
		if again != place || isThere != ok || impl.LargestClear(x) != largest || impl.CountSpots(x, impl.Node{}, x.Sheet) != count {
			t.Errorf("%v: a second call returns something else", x)
		}
		if !areUntouched() {
			t.Errorf("%v: an argument is modified", x)
		}
	}
}
