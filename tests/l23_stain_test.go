package tests

import (
	"math/rand"
	"slices"
	"testing"

	"loop.example/g03303/impl"
)

// stainsNotOk hold a number just past each limit and the extreme ints.
var stainsNotOk = []impl.Stain{
	{Red: -1}, {Green: -1}, {Blue: -1}, {Red: 1001}, {Green: 1001}, {Blue: 1001},
	{Red: 1001, Green: 1000, Blue: 1000}, {Red: 1000, Green: 1001, Blue: 1000}, {Red: 1000, Green: 1000, Blue: 1001}, {Red: -1, Green: 1001, Blue: 5},
	{Red: leastInt}, {Green: leastInt}, {Blue: leastInt}, {Red: greatestInt}, {Green: greatestInt}, {Blue: greatestInt},
}

func stainOf(red int, green int, blue int) impl.Stain {
	return impl.Stain{Red: red, Green: green, Blue: blue}
}

func clearStain() impl.Stain { return stainOf(1000, 1000, 1000) }

func colorsOf(s impl.Stain) [3]int { return [3]int{s.Red, s.Green, s.Blue} }

// randomStain is often 0 or 1000 in a color.
func randomStain(source *rand.Rand) impl.Stain {
	number := func() int { return min(max(source.Intn(1401)-200, 0), 1000) }
	return stainOf(number(), number(), number())
}

// quotient counts how many times a number that is not negative holds another.
func quotient(n int, by int) int {
	count := 0
	for step := by << 20; step >= by; step /= 2 {
		if n >= step {
			n, count = n-step, count+step/by
		}
	}
	return count
}

func TestStainOk(t *testing.T) {
	for _, s := range []impl.Stain{{}, clearStain(), stainOf(1000, 0, 0), stainOf(0, 1000, 0), stainOf(0, 0, 1000), stainOf(1, 500, 999)} {
		if !impl.StainOk(s) {
			t.Errorf("StainOk(%v) = false", s)
		}
	}
	for _, s := range stainsNotOk {
		if impl.StainOk(s) {
			t.Errorf("StainOk(%v) = true", s)
		}
	}
}

func TestLayStains(t *testing.T) {
	cases := []struct{ s, t, want impl.Stain }{
		{stainOf(500, 1000, 0), stainOf(501, 300, 7), stainOf(250, 300, 0)},
		{clearStain(), stainOf(1, 2, 999), stainOf(1, 2, 999)},
		{stainOf(1, 2, 999), clearStain(), stainOf(1, 2, 999)},
		{clearStain(), clearStain(), clearStain()},
		{impl.Stain{}, clearStain(), impl.Stain{}},
		{stainOf(999, 999, 999), stainOf(999, 1, 500), stainOf(998, 0, 499)},
		{stainOf(10, 10, 10), stainOf(100, 99, 101), stainOf(1, 0, 1)},
		{stainOf(30, 31, 33), stainOf(33, 32, 31), stainOf(0, 0, 1)},
	}
	for _, c := range cases {
		if got := impl.LayStains(c.s, c.t); got != c.want {
			t.Errorf("LayStains(%v, %v) = %v; want %v", c.s, c.t, got, c.want)
		}
	}
	for _, wrong := range stainsNotOk {
		for _, pair := range [][2]impl.Stain{{wrong, clearStain()}, {clearStain(), wrong}, {wrong, wrong}, {wrong, {}}} {
			if got := impl.LayStains(pair[0], pair[1]); got != (impl.Stain{}) {
				t.Errorf("LayStains(%v, %v) = %v", pair[0], pair[1], got)
			}
		}
	}
}

func TestTwoStainsTogetherAreNotLighter(t *testing.T) {
	source := rand.New(rand.NewSource(23))
	for range 3000 {
		s, u := randomStain(source), randomStain(source)
		laid := impl.LayStains(s, u)
		if !impl.StainOk(laid) || laid != impl.LayStains(u, s) {
			t.Errorf("LayStains(%v, %v) = %v, but the other way around %v", s, u, laid, impl.LayStains(u, s))
		}
		for i, n := range colorsOf(laid) {
			if n > colorsOf(s)[i] || n > colorsOf(u)[i] {
				t.Errorf("LayStains(%v, %v) = %v is lighter", s, u, laid)
			}
			if want := quotient(colorsOf(s)[i]*colorsOf(u)[i], 1000); n != want {
				t.Errorf("LayStains(%v, %v) = %v; want %d", s, u, laid, want)
			}
		}
		if laid != s && !impl.IsDarker(laid, s) || laid != u && !impl.IsDarker(laid, u) {
			t.Errorf("LayStains(%v, %v) = %v is not darker", s, u, laid)
		}
		if impl.IsDarker(s, laid) || impl.IsDarker(u, laid) {
			t.Errorf("%v or %v is darker than both together", s, u)
		}
	}
}

func TestLayAllByHand(t *testing.T) {
	half := stainOf(500, 500, 500)
	cases := []struct {
		name string
		list []impl.Stain
		want impl.Stain
	}{
		{"the empty list", nil, clearStain()},
		{"an empty slice", []impl.Stain{}, clearStain()},
		{"one stain", []impl.Stain{stainOf(1, 999, 0)}, stainOf(1, 999, 0)},
		{"two stains", []impl.Stain{stainOf(500, 1000, 0), stainOf(501, 300, 7)}, stainOf(250, 300, 0)},
		{"equal stains", []impl.Stain{half, half, half}, stainOf(125, 125, 125)},
		{"rounded down each time", []impl.Stain{half, half, half, half, half}, stainOf(31, 31, 31)},
		{"the dark ones first", []impl.Stain{stainOf(3, 3, 3), half, stainOf(999, 999, 999)}, impl.Stain{}},
		{"the dark ones last", []impl.Stain{stainOf(999, 999, 999), half, stainOf(3, 3, 3)}, stainOf(1, 1, 1)},
		{"20 clear stains", slices.Repeat([]impl.Stain{clearStain()}, 20), clearStain()},
		{"21 clear stains", slices.Repeat([]impl.Stain{clearStain()}, 21), impl.Stain{}},
		{"many clear stains", slices.Repeat([]impl.Stain{clearStain()}, 500), impl.Stain{}},
		{"20 stains of 999", slices.Repeat([]impl.Stain{stainOf(999, 1000, 1)}, 20), stainOf(980, 1000, 0)},
	}
	for _, c := range cases {
		if got := impl.LayAll(c.list); got != c.want {
			t.Errorf("%s: LayAll = %v; want %v", c.name, got, c.want)
		}
	}
	for _, wrong := range stainsNotOk {
		for _, list := range [][]impl.Stain{{wrong}, {wrong, half}, {half, wrong}, {half, wrong, half}} {
			if got := impl.LayAll(list); got != (impl.Stain{}) {
				t.Errorf("LayAll(%v) = %v", list, got)
			}
		}
	}
}

func TestLayAllLaysOneAfterTheOther(t *testing.T) {
	source := rand.New(rand.NewSource(230))
	for range 300 {
		list, want := []impl.Stain{}, clearStain()
		for range 20 {
			if got := impl.LayAll(list); got != want {
				t.Errorf("LayAll(%v) = %v; want %v", list, got, want)
			}
			s := randomStain(source)
			list, want = append(list, s), impl.LayStains(want, s)
		}
		if got := impl.LayAll(list); got != want {
			t.Errorf("LayAll(%v) = %v; want %v", list, got, want)
		}
	}
}

func TestIsDarker(t *testing.T) {
	s := stainOf(400, 500, 600)
	cases := []struct {
		name string
		s, t impl.Stain
		want bool
	}{
		{"equal stains", s, s, false},
		{"less red", stainOf(399, 500, 600), s, true},
		{"less green", stainOf(400, 499, 600), s, true},
		{"less blue", stainOf(400, 500, 599), s, true},
		{"less of all", stainOf(0, 0, 0), s, true},
		{"more red", stainOf(401, 500, 600), s, false},
		{"more green", stainOf(400, 501, 600), s, false},
		{"more blue", stainOf(400, 500, 601), s, false},
		{"less red, more green", stainOf(399, 501, 600), s, false},
		{"less green, more blue", stainOf(400, 499, 601), s, false},
		{"less blue, more red", stainOf(401, 500, 599), s, false},
		{"less of two, more blue", stainOf(0, 0, 601), s, false},
		{"no light and all light", impl.Stain{}, clearStain(), true},
		{"all light and no light", clearStain(), impl.Stain{}, false},
		{"both without light", impl.Stain{}, impl.Stain{}, false},
		{"both with all light", clearStain(), clearStain(), false},
	}
	for _, c := range cases {
		if got := impl.IsDarker(c.s, c.t); got != c.want {
			t.Errorf("%s: IsDarker(%v, %v) = %v", c.name, c.s, c.t, got)
		}
		if c.want && impl.IsDarker(c.t, c.s) {
			t.Errorf("%s: both are darker than the other one", c.name)
		}
	}
	for _, wrong := range stainsNotOk {
		for _, other := range []impl.Stain{{}, clearStain(), wrong, s} {
			if impl.IsDarker(wrong, other) || impl.IsDarker(other, wrong) {
				t.Errorf("IsDarker of %v and %v = true", wrong, other)
			}
		}
	}
}

func TestMixStainsByHand(t *testing.T) {
	s, u := stainOf(500, 1000, 0), stainOf(501, 300, 7)
	cases := []struct {
		name string
		part int
		want impl.Stain
		ok   bool
	}{
		{"a quarter", 25, stainOf(500, 475, 5), true},
		{"nothing of the first one", 0, u, true},
		{"nothing of the second one", 100, s, true},
		{"one hundredth", 1, stainOf(500, 307, 6), true},
		{"all but one hundredth", 99, stainOf(500, 993, 0), true},
		{"a half", 50, stainOf(500, 650, 3), true},
		{"a negative part", -1, impl.Stain{}, false},
		{"a part too much", 101, impl.Stain{}, false},
		{"the least part", leastInt, impl.Stain{}, false},
		{"the greatest part", greatestInt, impl.Stain{}, false},
	}
	for _, c := range cases {
		if got, ok := impl.MixStains(s, u, c.part); got != c.want || ok != c.ok {
			t.Errorf("%s: MixStains = %v, %v; want %v, %v", c.name, got, ok, c.want, c.ok)
		}
	}
	for _, wrong := range stainsNotOk {
		for _, part := range []int{-1, 0, 50, 100, 101} {
			for _, pair := range [][2]impl.Stain{{wrong, s}, {s, wrong}, {wrong, wrong}} {
				if got, ok := impl.MixStains(pair[0], pair[1], part); ok || got != (impl.Stain{}) {
					t.Errorf("MixStains(%v, %v, %d) = %v, %v", pair[0], pair[1], part, got, ok)
				}
			}
		}
	}
}

func TestMixesLieBetweenBothStains(t *testing.T) {
	source := rand.New(rand.NewSource(231))
	for range 2000 {
		s, u, part := randomStain(source), randomStain(source), source.Intn(101)
		mixed, ok := impl.MixStains(s, u, part)
		turned, _ := impl.MixStains(u, s, 100-part)
		if !ok || mixed != turned {
			t.Errorf("MixStains(%v, %v, %d) = %v, %v, but the other way around %v", s, u, part, mixed, ok, turned)
		}
		for i, n := range colorsOf(mixed) {
			a, b := colorsOf(s)[i], colorsOf(u)[i]
			if n < min(a, b) || n > max(a, b) || n != quotient(part*a+(100-part)*b, 100) {
				t.Errorf("MixStains(%v, %v, %d) = %v", s, u, part, mixed)
			}
		}
	}
}

func TestStainText(t *testing.T) {
	cases := map[impl.Stain]string{
		{}:                    "0/0/0",
		clearStain():          "1000/1000/1000",
		stainOf(500, 1000, 0): "500/1000/0",
		stainOf(1, 20, 300):   "1/20/300",
		stainOf(999, 0, 1000): "999/0/1000",
	}
	for s, want := range cases {
		if got := impl.StainText(s); got != want {
			t.Errorf("StainText(%v) = %q; want %q", s, got, want)
		}
	}
	for _, wrong := range stainsNotOk {
		if got := impl.StainText(wrong); got != "" {
			t.Errorf("StainText(%v) = %q; want none", wrong, got)
		}
	}
}

func TestStainsLeaveArgumentsAsTheyAre(t *testing.T) {
	source := rand.New(rand.NewSource(232))
	for count := range 21 {
		list := []impl.Stain{}
		for range count {
			list = append(list, randomStain(source))
		}
		roomy, isUntouched := roomyOf(list, stainOf(1, 2, 3), clearStain())
		if laid := impl.LayAll(roomy); impl.LayAll(roomy) != laid {
			t.Errorf("LayAll(%v): a second call returns something else", list)
		}
		if !isUntouched() {
			t.Errorf("%v is modified", list)
		}
	}
}
