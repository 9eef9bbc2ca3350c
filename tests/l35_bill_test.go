package tests

import (
	"math/rand"
	"slices"
	"testing"

	"loop.example/g03303/impl"
)

// tariffOf reads the prices of glass, lead, joints and paint.
func tariffOf(glass int, lead int, joint int, paint int) impl.Tariff {
	return impl.Tariff{Glass: glass, Lead: lead, Joint: joint, Paint: paint}
}

// tariffsNotOk hold a number just past each limit, and the extreme ints.
func tariffsNotOk() []impl.Tariff {
	list := []impl.Tariff{}
	for _, wrong := range []int{-1, 1001, leastInt, greatestInt} {
		list = append(list, tariffOf(wrong, 3, 1, 5), tariffOf(2, wrong, 1, 5), tariffOf(2, 3, wrong, 5), tariffOf(2, 3, 1, wrong))
	}
	return list
}

func jointsByHand(w impl.Window) int {
	ends := make([]int, len(w.Nodes))
	for _, l := range w.Leads {
		ends[l.From]++
		ends[l.To]++
	}
	return len(slices.DeleteFunc(ends, func(n int) bool { return n < 2 }))
}

func billByHand(w impl.Window, t impl.Tariff, painted []int) int {
	bill := t.Glass*totalByStrips(w) + t.Lead*lengthByHand(w) + t.Joint*jointsByHand(w)
	for _, f := range painted {
		bill += t.Paint * areaByHand(w, f)
	}
	return bill
}

func randomTariff(source *rand.Rand, greatest int) impl.Tariff {
	return tariffOf(source.Intn(greatest+1), source.Intn(greatest+1), source.Intn(greatest+1), source.Intn(greatest+1))
}

// somePainted takes each of the faces within, in ascending order, or leaves it.
func somePainted(source *rand.Rand, w impl.Window) []int {
	painted := []int{}
	for _, f := range facesWithin(w) {
		if source.Intn(2) == 0 {
			painted = append(painted, f)
		}
	}
	return painted
}

// wrongPainted are lists that no window of this size can be painted by.
func wrongPainted(w impl.Window) [][]int {
	lists := [][]int{{wallAround(w)}, slices.Repeat([]int{0}, 50), indicesOf(len(facesByAngle(w)))}
	within := facesWithin(w)
	for i, f := range within {
		lists = append(lists, []int{f, f})
		for _, wrong := range wrongIndices(len(facesByAngle(w))) {
			lists = append(lists, []int{wrong}, []int{f, wrong}, []int{wrong, f})
		}
		if i > 0 {
			lists = append(lists, []int{f, within[0]}, []int{within[0], f, within[0]})
		}
	}
	return lists
}

func TestTariffOk(t *testing.T) {
	for _, tariff := range []impl.Tariff{{}, tariffOf(1000, 1000, 1000, 1000), tariffOf(2, 3, 1, 5), tariffOf(1000, 0, 0, 0), tariffOf(0, 0, 0, 1000)} {
		if !impl.TariffOk(tariff) {
			t.Errorf("TariffOk(%v) = false", tariff)
		}
	}
	for _, tariff := range tariffsNotOk() {
		if impl.TariffOk(tariff) {
			t.Errorf("TariffOk(%v) = true", tariff)
		}
	}
}

func TestCountJoints(t *testing.T) {
	for _, c := range []struct {
		window string
		want   int
	}{
		{"sample", 5}, {"one lead", 0}, {"path", 2}, {"sun", 1}, {"triangle", 3}, {"inner spike", 3}, {"bridge", 6},
		{"one node", 0}, {"no leads", 0}, {"cross", 1}, {"side by side", 6}, {"two leads", 0}, {"node in a pane", 3},
	} {
		if got := impl.CountJoints(allWindows()[c.window]); got != c.want {
			t.Errorf("%s: CountJoints = %d; want %d", c.window, got, c.want)
		}
	}
	for name, w := range byName(allWindows()) {
		if got, want := impl.CountJoints(w), jointsByHand(w); got != want {
			t.Errorf("%s: CountJoints = %d; want %d", name, got, want)
		}
	}
	for name, w := range byName(invalidWindows()) {
		if got := impl.CountJoints(w); got != -1 {
			t.Errorf("%s: CountJoints = %d; want -1", name, got)
		}
	}
}

func TestBillsByHand(t *testing.T) {
	whole := wholeWindows()
	cases := []struct {
		name, window string
		tariff       impl.Tariff
		painted      []int
		want         int
	}{
		{"nothing painted", "sample", tariffOf(2, 3, 1, 5), nil, 417},
		{"one face painted", "sample", tariffOf(2, 3, 1, 5), []int{0}, 577},
		{"all faces painted", "sample", tariffOf(2, 3, 1, 5), []int{0, 2, 3, 4}, 1057},
		{"glass alone", "sample", tariffOf(1, 0, 0, 0), []int{2, 4}, 128},
		{"lead alone", "sample", tariffOf(0, 1, 0, 0), []int{2, 4}, 52},
		{"joints alone", "sample", tariffOf(0, 0, 1, 0), []int{2, 4}, 5},
		{"paint alone", "sample", tariffOf(0, 0, 0, 1), []int{2, 4}, 64},
		{"paint alone, with nothing painted", "sample", tariffOf(0, 0, 0, 1), nil, 0},
		{"nothing to pay", "sample", tariffOf(0, 0, 0, 0), []int{0}, 0},
		{"the greatest prices", "sample", tariffOf(1000, 1000, 1000, 1000), []int{0, 2, 3, 4}, 313000},
		{"a tree", "path", tariffOf(1000, 1, 10, 1000), nil, 39},
		{"painted behind the wall", "backwards", tariffOf(1, 0, 0, 10), []int{1}, 396},
		{"the inner one of two faces", "hanging pane", tariffOf(0, 0, 0, 1), []int{2}, 16},
	}
	for _, c := range cases {
		if got := impl.BillOf(whole[c.window], c.tariff, c.painted); got != c.want {
			t.Errorf("%s: BillOf = %d; want %d", c.name, got, c.want)
		}
	}
}

func TestBillsAddUp(t *testing.T) {
	source := rand.New(rand.NewSource(35))
	for name, w := range byName(someWholeWindows(351, 100)) {
		for range 3 {
			tariff, painted := randomTariff(source, 1000), somePainted(source, w)
			if got, want := impl.BillOf(w, tariff, painted), billByHand(w, tariff, painted); got != want {
				t.Errorf("%s: BillOf(%v, %v) = %d; want %d", name, tariff, painted, got, want)
			}
			sum := 0
			for _, part := range []impl.Tariff{{Glass: tariff.Glass}, {Lead: tariff.Lead}, {Joint: tariff.Joint}, {Paint: tariff.Paint}} {
				sum += impl.BillOf(w, part, painted)
			}
			if got := impl.BillOf(w, tariff, painted); got != sum {
				t.Errorf("%s: BillOf(%v, %v) = %d; its parts are %d", name, tariff, painted, got, sum)
			}
			other := randomTariff(source, 3)
			if source.Intn(2) == 0 {
				tariff = randomTariff(source, 3)
			}
			want := 0
			if one, two := billByHand(w, tariff, nil), billByHand(w, other, nil); one < two {
				want = -1
			} else if one > two {
				want = 1
			}
			if got, back := impl.CheaperTariff(w, tariff, other), impl.CheaperTariff(w, other, tariff); got != want || back != -want {
				t.Errorf("%s: CheaperTariff(%v, %v) = %d and the other way %d; want %d", name, tariff, other, got, back, want)
			}
		}
	}
}

func TestCheaperTariffByHand(t *testing.T) {
	sample := impl.SampleWindow()
	cases := []struct {
		name string
		t, u impl.Tariff
		want int
	}{
		{"the same", tariffOf(2, 3, 1, 5), tariffOf(2, 3, 1, 5), 0},
		{"paint makes no difference", tariffOf(2, 3, 1, 0), tariffOf(2, 3, 1, 1000), 0},
		{"equal bills of different tariffs", tariffOf(0, 5, 0, 0), tariffOf(0, 0, 52, 0), 0},
		{"one less", tariffOf(0, 5, 0, 0), tariffOf(2, 0, 1, 0), -1},
		{"one more", tariffOf(2, 0, 1, 0), tariffOf(0, 5, 0, 0), 1},
		{"nothing to pay", tariffOf(0, 0, 0, 0), tariffOf(0, 0, 1, 0), -1},
		{"both for nothing", tariffOf(0, 0, 0, 9), tariffOf(0, 0, 0, 0), 0},
	}
	for _, c := range cases {
		if got := impl.CheaperTariff(sample, c.t, c.u); got != c.want {
			t.Errorf("%s: CheaperTariff = %d; want %d", c.name, got, c.want)
		}
	}
	for _, wrong := range tariffsNotOk() {
		for _, fine := range []impl.Tariff{{}, tariffOf(2, 3, 1, 5), wrong} {
			if one, other := impl.CheaperTariff(sample, wrong, fine), impl.CheaperTariff(sample, fine, wrong); one != 0 || other != 0 {
				t.Errorf("CheaperTariff of %v and %v = %d and the other way %d; want 0", wrong, fine, one, other)
			}
		}
	}
	for name, w := range byName(notWholeWindows()) {
		if got := impl.CheaperTariff(w, impl.Tariff{}, tariffOf(2, 3, 1, 5)); got != 0 {
			t.Errorf("%s: CheaperTariff = %d; want 0", name, got)
		}
	}
}

func TestInstalmentsByHand(t *testing.T) {
	cases := []struct {
		name     string
		total, n int
		want     []int
	}{
		{"the greater ones first", 11, 3, []int{4, 4, 3}},
		{"equal parts", 12, 3, []int{4, 4, 4}},
		{"one greater", 13, 3, []int{5, 4, 4}},
		{"one instalment", 11, 1, []int{11}},
		{"nothing in one instalment", 0, 1, []int{0}},
		{"nothing", 0, 4, []int{0, 0, 0, 0}},
		{"less than the number of instalments", 2, 5, []int{1, 1, 0, 0, 0}},
		{"24 instalments", 25, 24, append([]int{2}, slices.Repeat([]int{1}, 23)...)},
		{"the greatest total", 100000000, 3, []int{33333334, 33333333, 33333333}},
		{"the greatest total at once", 100000000, 1, []int{100000000}},
		{"no instalments", 5, 0, nil},
		{"25 instalments", 25, 25, nil},
		{"the total -1", -1, 3, nil},
		{"a total too great", 100000001, 3, nil},
		{"nothing in no instalments", 0, 0, nil},
	}
	for _, c := range cases {
		if got := impl.Instalments(c.total, c.n); !slices.Equal(got, c.want) {
			t.Errorf("%s: Instalments = %v; want %v", c.name, got, c.want)
		}
	}
	for _, wrong := range []int{-1, leastInt, greatestInt} {
		if one, other := impl.Instalments(wrong, 3), impl.Instalments(5, wrong); len(one) != 0 || len(other) != 0 {
			t.Errorf("Instalments with %d = %v and %v; want nil", wrong, one, other)
		}
	}
}

func TestInstalmentsMakeTheWhole(t *testing.T) {
	source := rand.New(rand.NewSource(350))
	for n := 1; n <= 24; n++ {
		for _, total := range []int{0, 1, n - 1, n, n + 1, 100, source.Intn(100000001), 100000000} {
			parts := impl.Instalments(total, n)
			sum := 0
			for _, part := range parts {
				sum += part
			}
			if len(parts) != n || sum != total || parts[0]-parts[n-1] > 1 || !slices.IsSortedFunc(parts, func(a, b int) int { return b - a }) {
				t.Errorf("Instalments(%d, %d) = %v", total, n, parts)
			}
		}
	}
}

func TestBillsThatCannotBeMade(t *testing.T) {
	fine := tariffOf(2, 3, 1, 5)
	for name, w := range byName(wholeWindows()) {
		for _, painted := range wrongPainted(w) {
			if got := impl.BillOf(w, fine, painted); got != -1 {
				t.Errorf("%s: BillOf with %v painted = %d; want -1", name, painted, got)
			}
		}
		for _, wrong := range tariffsNotOk() {
			for _, painted := range [][]int{nil, facesWithin(w)} {
				if got := impl.BillOf(w, wrong, painted); got != -1 {
					t.Errorf("%s: BillOf(%v) = %d; want -1", name, wrong, got)
				}
			}
		}
	}
	for name, w := range byName(notWholeWindows()) {
		for _, painted := range [][]int{nil, {0}, {1}} {
			if got := impl.BillOf(w, fine, painted); got != -1 {
				t.Errorf("%s: BillOf with %v painted = %d; want -1", name, painted, got)
			}
		}
	}
}

func TestBillsLeaveArgumentsAsTheyAre(t *testing.T) {
	source := rand.New(rand.NewSource(352))
	for name, w := range byName(wholeWindows()) {
		roomy, isUntouched := roomyWindow(w)
		painted, isPaintUntouched := roomyList(somePainted(source, w))
		impl.CountJoints(roomy)
		impl.BillOf(roomy, tariffOf(2, 3, 1, 5), painted)
		impl.CheaperTariff(roomy, tariffOf(2, 3, 1, 5), impl.Tariff{})
		if !isUntouched() || !isPaintUntouched() {
			t.Errorf("%s: an argument is modified", name)
		}
	}
	checkFresh(t, "Instalments", func() [][]int { return [][]int{impl.Instalments(11, 3)} })
}
