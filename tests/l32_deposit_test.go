package tests

import (
	"cmp"
	"math/rand"
	"slices"
	"testing"

	"loop.example/g03303/impl"
)

// depositOf reads the place, the crate and the day.
func depositOf(place int, crate int, day int) impl.Deposit {
	return impl.Deposit{Place: place, Crate: crate, Day: day}
}

// depositsNotOk hold a number just past each limit and the extreme ints. All of
// them are on a day after 5.
func depositsNotOk() []impl.Deposit {
	list := []impl.Deposit{}
	for _, place := range []int{0, 201, -1, leastInt, greatestInt} {
		list = append(list, depositOf(place, 1, 9))
	}
	for _, crate := range []int{0, 51, -1, leastInt, greatestInt} {
		list = append(list, depositOf(100, crate, 9))
	}
	return append(list, depositOf(100, 1, 10000), depositOf(100, 1, greatestInt))
}

// threeDeposits are in two crates.
func threeDeposits() []impl.Deposit {
	return []impl.Deposit{depositOf(3, 2, 0), depositOf(7, 1, 1), depositOf(5, 2, 4)}
}

// manyDeposits are three on each day.
func manyDeposits(count int) []impl.Deposit {
	list := []impl.Deposit{}
	for i := range count {
		list = append(list, depositOf(200-i, 1+i%50, i/3))
	}
	return list
}

// wrongDeposits are lists that are not valid.
func wrongDeposits() map[string][]impl.Deposit {
	lists := map[string][]impl.Deposit{
		"a day that falls":               {depositOf(3, 2, 5), depositOf(7, 1, 4)},
		"the last day falls":             {depositOf(3, 2, 0), depositOf(7, 1, 5), depositOf(8, 1, 5), depositOf(9, 1, 4)},
		"a day that falls, and rises":    {depositOf(3, 2, 5), depositOf(7, 1, 4), depositOf(8, 1, 6)},
		"a place twice":                  {depositOf(3, 2, 5), depositOf(3, 1, 6)},
		"a place twice, apart":           {depositOf(3, 2, 5), depositOf(4, 2, 5), depositOf(5, 2, 5), depositOf(3, 2, 5)},
		"the same deposit twice":         {depositOf(3, 2, 5), depositOf(3, 2, 5)},
		"41 deposits":                    manyDeposits(41),
		"many deposits":                  manyDeposits(150),
		"the day -1":                     {depositOf(3, 2, -1)},
		"the least day":                  {depositOf(3, 2, leastInt)},
		"the day -1, and then 0":         {depositOf(3, 2, -1), depositOf(4, 2, 0)},
		"the day -1 after 0":             {depositOf(3, 2, 0), depositOf(4, 2, -1)},
		"the zero deposit":               {{}},
		"the zero deposit among others":  {depositOf(3, 2, 0), {}, depositOf(4, 2, 0)},
		"a day too great before the end": {depositOf(3, 2, 10000), depositOf(4, 2, 10000)},
	}
	for i, d := range depositsNotOk() {
		name := "a deposit that is not valid, " + impl.FormatInt(i)
		lists[name] = []impl.Deposit{d}
		lists[name+", last"] = append(threeDeposits(), d)
	}
	return lists
}

// fineDeposits are lists that are valid.
func fineDeposits() map[string][]impl.Deposit {
	return map[string][]impl.Deposit{
		"nil":              nil,
		"the empty list":   {},
		"one deposit":      {depositOf(3, 2, 0)},
		"three deposits":   threeDeposits(),
		"40 deposits":      manyDeposits(40),
		"the same day":     {depositOf(9, 4, 7), depositOf(2, 4, 7), depositOf(5, 3, 7)},
		"the least of all": {depositOf(1, 1, 0)},
		"the greatest":     {depositOf(200, 50, 9999)},
		"from first to last": {
			depositOf(200, 1, 0), depositOf(1, 50, 0), depositOf(100, 1, 9999), depositOf(2, 50, 9999),
		},
	}
}

func areDepositsFine(list []impl.Deposit) bool {
	if len(list) > 40 {
		return false
	}
	for i, d := range list {
		if d.Place < 1 || d.Place > 200 || d.Crate < 1 || d.Crate > 50 || d.Day < 0 || d.Day > 9999 {
			return false
		}
		for _, before := range list[:i] {
			if before.Place == d.Place || before.Day > d.Day {
				return false
			}
		}
	}
	return true
}

// returnedByHand sorts the deposits from the last one by their crates.
func returnedByHand(list []impl.Deposit) []int {
	backwards := slices.Clone(list)
	slices.Reverse(backwards)
	slices.SortStableFunc(backwards, func(d, e impl.Deposit) int { return cmp.Compare(d.Crate, e.Crate) })
	places := []int{}
	for _, d := range backwards {
		places = append(places, d.Place)
	}
	return places
}

func inCrateByHand(list []impl.Deposit, crate int) []int {
	places := []int{}
	for place := 1; place <= 200; place++ {
		if slices.ContainsFunc(list, func(d impl.Deposit) bool { return d.Place == place && d.Crate == crate }) {
			places = append(places, place)
		}
	}
	return places
}

func cratesByHand(list []impl.Deposit) []int {
	crates := []int{}
	for crate := 1; crate <= 50; crate++ {
		if len(inCrateByHand(list, crate)) > 0 {
			crates = append(crates, crate)
		}
	}
	return crates
}

// randomDeposits are valid.
func randomDeposits(source *rand.Rand, count int, crates int) []impl.Deposit {
	list := []impl.Deposit{}
	day := 0
	for _, i := range source.Perm(200)[:count] {
		day += source.Intn(3)
		list = append(list, depositOf(i+1, 1+source.Intn(crates), day))
	}
	return list
}

func TestDepositsOk(t *testing.T) {
	for name, list := range fineDeposits() {
		if !impl.DepositsOk(list) || !areDepositsFine(list) {
			t.Errorf("%s: DepositsOk = false", name)
		}
	}
	for name, list := range wrongDeposits() {
		if impl.DepositsOk(list) || areDepositsFine(list) {
			t.Errorf("%s: DepositsOk = true", name)
		}
	}
}

func TestDepositsByHand(t *testing.T) {
	cases := []struct {
		name   string
		order  []int
		crates []int
	}{
		{"nil", nil, nil},
		{"one deposit", []int{3}, []int{2}},
		{"three deposits", []int{7, 5, 3}, []int{1, 2}},
		{"the same day", []int{5, 2, 9}, []int{3, 4}},
		{"from first to last", []int{100, 200, 2, 1}, []int{1, 50}},
	}
	for _, c := range cases {
		list := fineDeposits()[c.name]
		if got := impl.ReturnOrder(list); !slices.Equal(got, c.order) {
			t.Errorf("%s: ReturnOrder = %v; want %v", c.name, got, c.order)
		}
		if got := impl.CratesUsed(list); !slices.Equal(got, c.crates) {
			t.Errorf("%s: CratesUsed = %v; want %v", c.name, got, c.crates)
		}
	}
	if got := impl.InCrate(fineDeposits()["the same day"], 4); !slices.Equal(got, []int{2, 9}) {
		t.Errorf("InCrate = %v; want [2 9]", got)
	}
	for _, crate := range []int{-1, 0, 3, 50, 51, leastInt, greatestInt} {
		if got := impl.InCrate(threeDeposits(), crate); len(got) != 0 {
			t.Errorf("InCrate(%d) = %v; want no places", crate, got)
		}
	}
}

// checkDeposits compares all that chapter 32 says of one valid list.
func checkDeposits(t *testing.T, list []impl.Deposit) {
	t.Helper()
	if got, want := impl.ReturnOrder(list), returnedByHand(list); !slices.Equal(got, want) {
		t.Errorf("ReturnOrder(%v) = %v; want %v", list, got, want)
	}
	if got, want := impl.CratesUsed(list), cratesByHand(list); !slices.Equal(got, want) {
		t.Errorf("CratesUsed(%v) = %v; want %v", list, got, want)
	}
	for crate := range 52 {
		if got, want := impl.InCrate(list, crate), inCrateByHand(list, crate); !slices.Equal(got, want) {
			t.Errorf("InCrate(%v, %d) = %v; want %v", list, crate, got, want)
		}
	}
}

func TestEveryPaneReturnsOnce(t *testing.T) {
	for _, list := range fineDeposits() {
		checkDeposits(t, list)
	}
	source := rand.New(rand.NewSource(32))
	for round := range 60 {
		list := randomDeposits(source, source.Intn(41), []int{1, 2, 5, 50}[round%4])
		checkDeposits(t, list)
		places := []int{}
		for _, d := range list {
			places = append(places, d.Place)
		}
		order := impl.ReturnOrder(list)
		rest := list
		for _, place := range order {
			var ok bool
			if rest, ok = impl.TakeBack(rest, place); !ok {
				t.Errorf("the place %d of %v does not come back", place, list)
			}
		}
		if len(rest) != 0 {
			t.Errorf("after all have returned, %v are left", rest)
		}
		slices.Sort(order)
		slices.Sort(places)
		if !slices.Equal(order, places) {
			t.Errorf("ReturnOrder(%v) has the places %v", list, order)
		}
	}
}

func TestWhatIsStoredCanBeFetched(t *testing.T) {
	source := rand.New(rand.NewSource(320))
	for range 80 {
		list := randomDeposits(source, source.Intn(40), 5)
		day := 0
		if len(list) > 0 {
			day = list[len(list)-1].Day
		}
		d := depositOf(1+source.Intn(200), 1+source.Intn(50), day+source.Intn(3))
		isNew := !slices.ContainsFunc(list, func(e impl.Deposit) bool { return e.Place == d.Place })
		longer, ok := impl.AddDeposit(list, d)
		if ok != isNew || ok && !slices.Equal(longer, append(slices.Clone(list), d)) || !ok && !slices.Equal(longer, list) {
			t.Errorf("AddDeposit(%v, %v) = %v, %v", list, d, longer, ok)
		}
		if !ok {
			continue
		}
		if back, ok := impl.TakeBack(longer, d.Place); !ok || !slices.Equal(back, list) {
			t.Errorf("TakeBack(%v, %d) = %v, %v", longer, d.Place, back, ok)
		}
		for i, e := range longer {
			want := slices.Delete(slices.Clone(longer), i, i+1)
			if back, ok := impl.TakeBack(longer, e.Place); !ok || !slices.Equal(back, want) {
				t.Errorf("TakeBack(%v, %d) = %v, %v; want %v", longer, e.Place, back, ok, want)
			}
		}
	}
}

func TestAddDepositByHand(t *testing.T) {
	three := threeDeposits()
	cases := []struct {
		name string
		list []impl.Deposit
		d    impl.Deposit
		ok   bool
	}{
		{"the first one", nil, depositOf(1, 1, 0), true},
		{"on the same day", three, depositOf(9, 1, 4), true},
		{"on the day before", three, depositOf(9, 1, 3), false},
		{"on the next day", three, depositOf(9, 1, 5), true},
		{"on the last day", three, depositOf(9, 1, 9999), true},
		{"on the day after the last one", three, depositOf(9, 1, 10000), false},
		{"on the day -1", nil, depositOf(9, 1, -1), false},
		{"a place that is there", three, depositOf(3, 1, 4), false},
		{"a crate that is there", three, depositOf(9, 2, 4), true},
		{"the 40th one", manyDeposits(39), depositOf(1, 1, 50), true},
		{"the 41st one", manyDeposits(40), depositOf(1, 1, 50), false},
	}
	for _, c := range cases {
		got, ok := impl.AddDeposit(c.list, c.d)
		want := c.list
		if c.ok {
			want = append(slices.Clone(c.list), c.d)
		}
		if ok != c.ok || !slices.Equal(got, want) {
			t.Errorf("%s: AddDeposit = %v, %v; want %v, %v", c.name, got, ok, want, c.ok)
		}
	}
	for _, d := range depositsNotOk() {
		if got, ok := impl.AddDeposit(three, d); ok || !slices.Equal(got, three) {
			t.Errorf("AddDeposit(%v) = %v, %v", d, got, ok)
		}
	}
}

func TestPlacesThatAreNotThere(t *testing.T) {
	for name, list := range fineDeposits() {
		for _, place := range []int{-1, 0, 4, 201, leastInt, greatestInt} {
			if got, ok := impl.TakeBack(list, place); ok || !slices.Equal(got, list) {
				t.Errorf("%s: TakeBack(%d) = %v, %v", name, place, got, ok)
			}
		}
	}
}

func TestDepositsThatAreNotValid(t *testing.T) {
	for name, list := range wrongDeposits() {
		if got, ok := impl.AddDeposit(list, depositOf(50, 5, 9999)); ok || !slices.Equal(got, list) {
			t.Errorf("%s: AddDeposit = %v, %v", name, got, ok)
		}
		for _, d := range list {
			if got, ok := impl.TakeBack(list, d.Place); ok || !slices.Equal(got, list) {
				t.Errorf("%s: TakeBack(%d) = %v, %v", name, d.Place, got, ok)
			}
			if got := impl.InCrate(list, d.Crate); len(got) != 0 {
				t.Errorf("%s: InCrate(%d) = %v; want nil", name, d.Crate, got)
			}
		}
		if crates, order := impl.CratesUsed(list), impl.ReturnOrder(list); len(crates) != 0 || len(order) != 0 {
			t.Errorf("%s: CratesUsed = %v and ReturnOrder = %v; want nil", name, crates, order)
		}
	}
}

func TestDepositsLeaveArgumentsAsTheyAre(t *testing.T) {
	junk := depositOf(-7, -7, -7)
	lists := fineDeposits()
	for name, list := range wrongDeposits() {
		lists[name] = list
	}
	for name, list := range lists {
		roomy, isUntouched := roomyOf(list, junk, depositOf(8, 8, 8))
		for _, d := range []impl.Deposit{depositOf(50, 5, 9999), {}} {
			checkFreshOf(t, name+", AddDeposit", junk, func() []impl.Deposit {
				longer, _ := impl.AddDeposit(roomy, d)
				return longer
			})
		}
		for _, place := range []int{3, 4, 200} {
			checkFreshOf(t, name+", TakeBack", junk, func() []impl.Deposit {
				rest, _ := impl.TakeBack(roomy, place)
				return rest
			})
		}
		checkFresh(t, name+", places", func() [][]int {
			return [][]int{impl.InCrate(roomy, 2), impl.CratesUsed(roomy), impl.ReturnOrder(roomy)}
		})
		impl.DepositsOk(roomy)
		if !isUntouched() {
			t.Errorf("%s: the list is modified, or a result shares its memory", name)
		}
	}
}
