package tests

import (
	"math/rand"
	"slices"
	"testing"

	"loop.example/g03303/impl"
)

// firingsNotOk hold a number just past each limit and the extreme ints.
var firingsNotOk = []impl.Firing{
	{}, {Heat: 399, Hours: 4, Room: 50}, {Heat: 901, Hours: 4, Room: 50}, {Heat: -600, Hours: 4, Room: 50},
	{Heat: 600, Hours: 0, Room: 50}, {Heat: 600, Hours: 25, Room: 50}, {Heat: 600, Hours: -1, Room: 50},
	{Heat: 600, Hours: 4, Room: 0}, {Heat: 600, Hours: 4, Room: 101}, {Heat: 600, Hours: 4, Room: -1},
	{Heat: leastInt, Hours: 4, Room: 50}, {Heat: greatestInt, Hours: 4, Room: 50}, {Heat: 600, Hours: leastInt, Room: 50},
	{Heat: 600, Hours: greatestInt, Room: 50}, {Heat: 600, Hours: 4, Room: leastInt}, {Heat: 600, Hours: 4, Room: greatestInt},
}

// firedTogether makes panes of one Heat that need four hours.
func firedTogether(rooms ...int) []impl.Firing {
	list := []impl.Firing{}
	for _, room := range rooms {
		list = append(list, impl.Firing{Heat: 600, Hours: 4, Room: room})
	}
	return list
}

// batchesByHand puts each pane into each batch so far and into a new one, and
// returns the least number of batches and the least sum of hours.
func batchesByHand(list []impl.Firing) (int, int) {
	fewest, least := len(list), 24*len(list)
	batches := [][]impl.Firing{}
	var fill func(i int)
	fill = func(i int) {
		if i == len(list) {
			hours := 0
			for _, batch := range batches {
				hours += batch[0].Hours
			}
			fewest, least = min(fewest, len(batches)), min(least, hours)
			return
		}
		for k, batch := range batches {
			room := list[i].Room
			for _, f := range batch {
				room += f.Room
			}
			if batch[0].Heat == list[i].Heat && batch[0].Hours == list[i].Hours && room <= 100 {
				batches[k] = append(batch, list[i])
				fill(i + 1)
				batches[k] = batch
			}
		}
		batches = append(batches, []impl.Firing{list[i]})
		fill(i + 1)
		batches = batches[:len(batches)-1]
	}
	fill(0)
	return fewest, least
}

// isAfter reports whether the pane i is fired after the pane j.
func isAfter(list []impl.Firing, i int, j int) bool {
	if list[i].Heat != list[j].Heat {
		return list[i].Heat < list[j].Heat
	}
	if list[i].Hours != list[j].Hours {
		return list[i].Hours > list[j].Hours
	}
	return i > j
}

// orderByHand puts each pane at the place that has as many before it as come
// before the pane.
func orderByHand(list []impl.Firing) []int {
	order := make([]int, len(list))
	for i := range list {
		before := 0
		for j := range list {
			if isAfter(list, i, j) {
				before++
			}
		}
		order[before] = i
	}
	return order
}

// randomFirings often have the same Heat and Hours.
func randomFirings(source *rand.Rand, count int) []impl.Firing {
	list := []impl.Firing{}
	for range count {
		list = append(list, impl.Firing{Heat: 600 + 50*source.Intn(2), Hours: 4 + source.Intn(2), Room: 1 + source.Intn(60)})
	}
	return list
}

func TestFiringOk(t *testing.T) {
	fine := []impl.Firing{
		{Heat: 400, Hours: 1, Room: 1}, {Heat: 900, Hours: 24, Room: 100}, {Heat: 600, Hours: 4, Room: 60},
		{Heat: 400, Hours: 24, Room: 100}, {Heat: 900, Hours: 1, Room: 1},
	}
	for _, f := range fine {
		if !impl.FiringOk(f) || impl.FewestFirings([]impl.Firing{f}) != 1 || impl.HoursOf([]impl.Firing{f}) != f.Hours {
			t.Errorf("%v cannot be fired", f)
		}
	}
	for _, f := range firingsNotOk {
		if impl.FiringOk(f) {
			t.Errorf("FiringOk(%v) = true", f)
		}
	}
}

func TestCanShare(t *testing.T) {
	f := impl.Firing{Heat: 600, Hours: 4, Room: 60}
	cases := []struct {
		name string
		g    impl.Firing
		want bool
	}{
		{"a full kiln", impl.Firing{Heat: 600, Hours: 4, Room: 40}, true},
		{"one too much", impl.Firing{Heat: 600, Hours: 4, Room: 41}, false},
		{"room left", impl.Firing{Heat: 600, Hours: 4, Room: 1}, true},
		{"the same pane", f, false},
		{"the whole kiln", impl.Firing{Heat: 600, Hours: 4, Room: 100}, false},
		{"hotter", impl.Firing{Heat: 601, Hours: 4, Room: 10}, false},
		{"cooler", impl.Firing{Heat: 599, Hours: 4, Room: 10}, false},
		{"longer", impl.Firing{Heat: 600, Hours: 5, Room: 10}, false},
		{"shorter", impl.Firing{Heat: 600, Hours: 3, Room: 10}, false},
	}
	for _, c := range cases {
		if impl.CanShare(f, c.g) != c.want || impl.CanShare(c.g, f) != c.want {
			t.Errorf("%s: CanShare = %v", c.name, !c.want)
		}
	}
	half := impl.Firing{Heat: 400, Hours: 24, Room: 50}
	if !impl.CanShare(half, half) {
		t.Error("two halves cannot share the kiln")
	}
	for _, wrong := range firingsNotOk {
		for _, g := range []impl.Firing{f, wrong, {Heat: wrong.Heat, Hours: wrong.Hours, Room: 1}} {
			if impl.CanShare(wrong, g) || impl.CanShare(g, wrong) {
				t.Errorf("CanShare of %v and %v = true", wrong, g)
			}
		}
	}
}

func TestFiringsByHand(t *testing.T) {
	other := impl.Firing{Heat: 650, Hours: 6, Room: 10}
	cases := []struct {
		name   string
		list   []impl.Firing
		fewest int
		hours  int
	}{
		{"no panes", nil, 0, 0},
		{"one pane", firedTogether(100), 1, 4},
		{"a full kiln", firedTogether(60, 40), 1, 4},
		{"one too much", firedTogether(60, 41), 2, 8},
		{"a full kiln of three", firedTogether(33, 33, 34), 1, 4},
		{"one too much of three", firedTogether(33, 34, 34), 2, 8},
		{"two sorts", append(firedTogether(60, 40), other), 2, 10},
		{"two sorts by turns", append(append(firedTogether(60), other), firedTogether(40)...), 2, 10},
		{"the same Heat with other Hours", []impl.Firing{{Heat: 600, Hours: 4, Room: 10}, {Heat: 600, Hours: 5, Room: 10}}, 2, 9},
		{"the same Hours with other Heat", []impl.Firing{{Heat: 600, Hours: 4, Room: 10}, {Heat: 700, Hours: 4, Room: 10}}, 2, 8},
		{"equal panes", firedTogether(50, 50, 50, 50, 50), 3, 12},
		{"ten equal panes", firedTogether(10, 10, 10, 10, 10, 10, 10, 10, 10, 10), 1, 4},
		{"ten panes alone", firedTogether(51, 52, 53, 54, 55, 56, 57, 58, 59, 60), 10, 40},
		// The largest one first, into the first kiln with room, needs three.
		{"a puzzle", firedTogether(45, 35, 35, 33, 30, 22), 2, 8},
		{"the longest batch", []impl.Firing{{Heat: 400, Hours: 24, Room: 100}, {Heat: 900, Hours: 1, Room: 100}}, 2, 25},
	}
	for _, c := range cases {
		if got := impl.FewestFirings(c.list); got != c.fewest {
			t.Errorf("%s: FewestFirings = %d; want %d", c.name, got, c.fewest)
		}
		if got := impl.HoursOf(c.list); got != c.hours {
			t.Errorf("%s: HoursOf = %d; want %d", c.name, got, c.hours)
		}
	}
}

func TestFiringsOfAllBatches(t *testing.T) {
	source := rand.New(rand.NewSource(22))
	for i := range 400 {
		list := randomFirings(source, i%8)
		fewest, hours := batchesByHand(list)
		if got := impl.FewestFirings(list); got != fewest {
			t.Errorf("FewestFirings(%v) = %d; want %d", list, got, fewest)
		}
		if got := impl.HoursOf(list); got != hours {
			t.Errorf("HoursOf(%v) = %d; want %d", list, got, hours)
		}
	}
	for range 8 {
		list := randomFirings(source, 10)
		for i := range list {
			list[i].Heat, list[i].Hours = 700, 3
		}
		fewest, hours := batchesByHand(list)
		if got, found := impl.FewestFirings(list), impl.HoursOf(list); got != fewest || found != hours {
			t.Errorf("FewestFirings(%v) = %d and HoursOf = %d; want %d and %d", list, got, found, fewest, hours)
		}
	}
}

func TestOnePaneMoreNeedsAtMostOneBatchMore(t *testing.T) {
	source := rand.New(rand.NewSource(220))
	for range 40 {
		list := randomFirings(source, 10)
		for i := range list {
			fewest, hours := impl.FewestFirings(list[:i]), impl.HoursOf(list[:i])
			more, longer := impl.FewestFirings(list[:i+1]), impl.HoursOf(list[:i+1])
			if more < fewest || more > fewest+1 {
				t.Errorf("FewestFirings(%v) = %d; without the last pane %d", list[:i+1], more, fewest)
			}
			if longer != hours && longer != hours+list[i].Hours {
				t.Errorf("HoursOf(%v) = %d; without the last pane %d", list[:i+1], longer, hours)
			}
		}
	}
}

func TestFireOrderByHand(t *testing.T) {
	a, b := impl.Firing{Heat: 600, Hours: 4, Room: 60}, impl.Firing{Heat: 600, Hours: 4, Room: 40}
	hot, long := impl.Firing{Heat: 650, Hours: 6, Room: 10}, impl.Firing{Heat: 600, Hours: 5, Room: 1}
	cases := []struct {
		name string
		list []impl.Firing
		want []int
	}{
		{"no panes", nil, nil},
		{"one pane", []impl.Firing{a}, []int{0}},
		{"the hottest last", []impl.Firing{a, b, hot}, []int{2, 0, 1}},
		{"the hottest first", []impl.Firing{hot, a, b}, []int{0, 1, 2}},
		{"the same Heat with other Hours", []impl.Firing{long, a, b}, []int{1, 2, 0}},
		{"Room makes no order", []impl.Firing{a, b, a, b}, []int{0, 1, 2, 3}},
		{"hotter for longer", []impl.Firing{a, long, hot}, []int{2, 0, 1}},
		{"equal panes", []impl.Firing{a, a, a, a, a, a, a, a, a, a}, []int{0, 1, 2, 3, 4, 5, 6, 7, 8, 9}},
		{"equal panes among others", []impl.Firing{a, hot, a, long, a, hot}, []int{1, 5, 0, 2, 4, 3}},
	}
	for _, c := range cases {
		if got := impl.FireOrder(c.list); !slices.Equal(got, c.want) {
			t.Errorf("%s: FireOrder = %v; want %v", c.name, got, c.want)
		}
	}
}

func TestTheHottestComesFirst(t *testing.T) {
	source := rand.New(rand.NewSource(221))
	for range 500 {
		list := randomFirings(source, source.Intn(11))
		order := impl.FireOrder(list)
		if want := orderByHand(list); !slices.Equal(order, want) {
			t.Errorf("FireOrder(%v) = %v; want %v", list, order, want)
		}
		for i := 1; i < len(order); i++ {
			if list[order[i]].Heat > list[order[i-1]].Heat {
				t.Errorf("FireOrder(%v) = %v: a later firing is hotter", list, order)
			}
		}
	}
}

func TestTenPanesAndEleven(t *testing.T) {
	ten, eleven := slices.Repeat(firedTogether(20), 10), slices.Repeat(firedTogether(20), 11)
	if fewest, hours, order := impl.FewestFirings(ten), impl.HoursOf(ten), impl.FireOrder(ten); fewest != 2 || hours != 8 || len(order) != 10 {
		t.Errorf("10 panes: FewestFirings = %d, HoursOf = %d and FireOrder = %v", fewest, hours, order)
	}
	for _, list := range [][]impl.Firing{eleven, slices.Repeat(eleven, 100)} {
		if fewest, hours, order := impl.FewestFirings(list), impl.HoursOf(list), impl.FireOrder(list); fewest != -1 || hours != -1 || len(order) != 0 {
			t.Errorf("%d panes: FewestFirings = %d, HoursOf = %d and FireOrder = %v", len(list), fewest, hours, order)
		}
	}
}

func TestPanesThatCannotBeFired(t *testing.T) {
	fine := firedTogether(20, 20)
	for _, wrong := range firingsNotOk {
		for _, list := range [][]impl.Firing{{wrong}, {wrong, fine[0]}, {fine[0], wrong}, {fine[0], fine[1], wrong}} {
			if fewest, hours, order := impl.FewestFirings(list), impl.HoursOf(list), impl.FireOrder(list); fewest != -1 || hours != -1 || len(order) != 0 {
				t.Errorf("%v: FewestFirings = %d, HoursOf = %d and FireOrder = %v", list, fewest, hours, order)
			}
		}
	}
}

func TestFiringsLeaveArgumentsAsTheyAre(t *testing.T) {
	source := rand.New(rand.NewSource(222))
	for count := range 11 {
		list, isUntouched := roomyOf(randomFirings(source, count), firedTogether(1, 2)...)
		checkFreshOf(t, "FireOrder", -7, func() []int { return impl.FireOrder(list) })
		fewest, hours := impl.FewestFirings(list), impl.HoursOf(list)
		if impl.FewestFirings(list) != fewest || impl.HoursOf(list) != hours {
			t.Errorf("%v: a second call returns something else", list)
		}
		if !isUntouched() {
			t.Errorf("%v is modified", list)
		}
	}
}
