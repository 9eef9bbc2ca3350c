package tests

import (
	"math/rand"
	"slices"
	"testing"

	"loop.example/g03303/impl"
)

// lightByHand adds up for each of the three colors.
func lightByHand(w impl.Window, stains []impl.Stain) [3]int {
	light := [3]int{}
	for _, f := range facesWithin(w) {
		for i, n := range colorsOf(stains[f]) {
			light[i] += areaByStrips(w, facesByAngle(w)[f]) * n
		}
	}
	return light
}

func brightestByHand(w impl.Window, stains []impl.Stain) int {
	within := facesWithin(w)
	if len(within) == 0 {
		return -1
	}
	light := func(f int) int {
		return areaByStrips(w, facesByAngle(w)[f]) * (stains[f].Red + stains[f].Green + stains[f].Blue)
	}
	return slices.MaxFunc(within, func(f int, g int) int { return light(f) - light(g) })
}

func totalByStrips(w impl.Window) int {
	total := 0
	for _, f := range facesWithin(w) {
		total += areaByStrips(w, facesByAngle(w)[f])
	}
	return total
}

func lightOf(w impl.Window, stains []impl.Stain) [3]int {
	red, green, blue := impl.LightOf(w, stains)
	return [3]int{red, green, blue}
}

func clearStains(count int) []impl.Stain { return slices.Repeat([]impl.Stain{clearStain()}, count) }

func randomStains(source *rand.Rand, count int) []impl.Stain {
	list := []impl.Stain{}
	for range count {
		list = append(list, randomStain(source))
	}
	return list
}

// changed replaces one element.
func changed[T any](list []T, i int, value T) []T {
	list = slices.Clone(list)
	list[i] = value
	return list
}

func TestLightByHand(t *testing.T) {
	whole := wholeWindows()
	dim, red := stainOf(500, 0, 100), stainOf(1000, 0, 0)
	five, three := clearStains(5), clearStains(3)
	cases := []struct {
		name, window     string
		stains           []impl.Stain
		light            [3]int
		brightest, share int
	}{
		{"all clear", "sample", five, [3]int{128000, 128000, 128000}, 0, 1000},
		{"the first one is dim", "sample", changed(five, 0, dim), [3]int{112000, 96000, 99200}, 2, 800},
		{"the last one is dim", "sample", changed(five, 4, dim), [3]int{112000, 96000, 99200}, 0, 800},
		{"the wall around makes no light", "sample", changed(five, 1, dim), [3]int{128000, 128000, 128000}, 0, 1000},
		{"no light", "sample", make([]impl.Stain, 5), [3]int{}, 0, 0},
		{"light on the wall alone", "sample", changed(make([]impl.Stain, 5), 1, clearStain()), [3]int{}, 0, 0},
		{"one red pane", "sample", changed(make([]impl.Stain, 5), 3, red), [3]int{32000, 0, 0}, 3, 83},
		{"the least light", "sample", changed(make([]impl.Stain, 5), 2, stainOf(0, 0, 1)), [3]int{0, 0, 32}, 2, 0},
		{"the sum makes the brightest", "sample", []impl.Stain{stainOf(1000, 0, 0), {}, stainOf(400, 400, 400), stainOf(0, 0, 1000), {}}, [3]int{44800, 12800, 44800}, 2, 266},
		{"two cells, a third each", "two cells", []impl.Stain{red, {}, stainOf(0, 0, 1000)}, [3]int{32000, 0, 32000}, 0, 333},
		{"the greater face is brighter", "hanging pane", []impl.Stain{stainOf(0, 100, 0), stainOf(0, 900, 0), stainOf(0, 900, 0)}, [3]int{0, 64000, 0}, 0, 41},
		{"a triangle", "triangle", []impl.Stain{stainOf(1, 2, 3), clearStain()}, [3]int{36, 72, 108}, 0, 2},
		{"a triangle behind the wall", "backwards", []impl.Stain{clearStain(), stainOf(1, 2, 3)}, [3]int{36, 72, 108}, 1, 2},
		{"a loose lead takes no light", "inner spike", three[:2], [3]int{144000, 144000, 144000}, 0, 1000},
	}
	for _, c := range cases {
		w := whole[c.window]
		if got := lightOf(w, c.stains); got != c.light {
			t.Errorf("%s: LightOf = %v; want %v", c.name, got, c.light)
		}
		if got := impl.BrightestFace(w, c.stains); got != c.brightest {
			t.Errorf("%s: BrightestFace = %d; want %d", c.name, got, c.brightest)
		}
		if got := impl.ShareOfLight(w, c.stains); got != c.share {
			t.Errorf("%s: ShareOfLight = %d; want %d", c.name, got, c.share)
		}
	}
}

func TestTreesLetNoLightIn(t *testing.T) {
	for _, name := range []string{"one lead", "steep lead", "path", "sun"} {
		w := wholeWindows()[name]
		for _, stains := range [][]impl.Stain{clearStains(1), {{}}, {stainOf(1, 2, 3)}} {
			light, brightest, share := lightOf(w, stains), impl.BrightestFace(w, stains), impl.ShareOfLight(w, stains)
			if light != [3]int{} || brightest != -1 || share != 0 {
				t.Errorf("%s: LightOf = %v, BrightestFace = %d and ShareOfLight = %d", name, light, brightest, share)
			}
		}
	}
}

func TestLightAddsUpPaneByPane(t *testing.T) {
	source := rand.New(rand.NewSource(24))
	for name, w := range byName(someWholeWindows(241, 150)) {
		faces := len(facesByAngle(w))
		stains := randomStains(source, faces)
		sum := [3]int{}
		for f := range faces {
			alone := lightOf(w, changed(make([]impl.Stain, faces), f, stains[f]))
			for i := range sum {
				sum[i] += alone[i]
			}
		}
		light := lightOf(w, stains)
		if light != sum || light != lightByHand(w, stains) {
			t.Errorf("%s: LightOf(%v) = %v; face by face %v; by hand %v", name, stains, light, sum, lightByHand(w, stains))
		}
		if got, want := impl.BrightestFace(w, stains), brightestByHand(w, stains); got != want {
			t.Errorf("%s: BrightestFace(%v) = %d; want %d", name, stains, got, want)
		}
		share, falling := impl.ShareOfLight(w, stains), totalByStrips(w)*3000
		if share < 0 || share > 1000 || share*falling > (light[0]+light[1]+light[2])*1000 {
			t.Errorf("%s: ShareOfLight(%v) = %d", name, stains, share)
		}
		if falling > 0 && (share+1)*falling <= (light[0]+light[1]+light[2])*1000 {
			t.Errorf("%s: ShareOfLight(%v) = %d is too little", name, stains, share)
		}
	}
}

func TestNoMoreLightComesInThanFalls(t *testing.T) {
	source := rand.New(rand.NewSource(240))
	for name, w := range byName(someWholeWindows(242, 100)) {
		clear := clearStains(len(facesByAngle(w)))
		full := lightOf(w, clear)
		if total := totalByStrips(w); full != [3]int{1000 * total, 1000 * total, 1000 * total} {
			t.Errorf("%s: LightOf clear glass = %v", name, full)
		}
		if share := impl.ShareOfLight(w, clear); len(facesWithin(w)) > 0 && share != 1000 {
			t.Errorf("%s: ShareOfLight of clear glass = %d", name, share)
		}
		stains := randomStains(source, len(clear))
		for i, n := range lightOf(w, stains) {
			if n < 0 || n > full[i] {
				t.Errorf("%s: LightOf(%v) is greater than %v", name, stains, full)
			}
		}
	}
}

func TestTheFirstOfTheBrightestFaces(t *testing.T) {
	for name, w := range wholeWindows() {
		faces := len(facesByAngle(w))
		for _, stains := range [][]impl.Stain{clearStains(faces), make([]impl.Stain, faces)} {
			if got, want := impl.BrightestFace(w, stains), brightestByHand(w, stains); got != want {
				t.Errorf("%s: BrightestFace(%v) = %d; want %d", name, stains, got, want)
			}
		}
	}
	// The faces come out of a map in any order: try often.
	ten := fullWindow()
	for range 100 {
		if got := impl.BrightestFace(ten, make([]impl.Stain, 10)); got != facesWithin(ten)[0] {
			t.Fatalf("BrightestFace of dark glass = %d", got)
		}
	}
}

// checkNoLight needs a window or stains that are not valid.
func checkNoLight(t *testing.T, name string, w impl.Window, stains []impl.Stain) {
	t.Helper()
	light, brightest, share := lightOf(w, stains), impl.BrightestFace(w, stains), impl.ShareOfLight(w, stains)
	if light != [3]int{} || brightest != -1 || share != 0 {
		t.Errorf("%s: with %d stains LightOf = %v, BrightestFace = %d and ShareOfLight = %d", name, len(stains), light, brightest, share)
	}
}

func TestStainsThatAreNotOneForEachFace(t *testing.T) {
	for name, w := range wholeWindows() {
		faces := len(facesByAngle(w))
		for _, count := range []int{0, faces - 1, faces + 1, 100} {
			checkNoLight(t, name, w, clearStains(count))
		}
		for f := range faces {
			for _, wrong := range stainsNotOk {
				checkNoLight(t, name, w, changed(clearStains(faces), f, wrong))
			}
		}
	}
	for name, w := range notWholeWindows() {
		for count := range 14 {
			checkNoLight(t, name, w, clearStains(count))
		}
	}
}

func TestWithStain(t *testing.T) {
	wrong := stainOf(0, 1001, 0)
	list, s := []impl.Stain{stainOf(1, 2, 3), wrong, clearStain()}, stainOf(7, 8, 9)
	for f := range list {
		if got, ok := impl.WithStain(list, f, s); !ok || !slices.Equal(got, changed(list, f, s)) {
			t.Errorf("WithStain(%d) = %v, %v", f, got, ok)
		}
		for _, wrong := range stainsNotOk {
			if got, ok := impl.WithStain(list, f, wrong); ok || !slices.Equal(got, list) {
				t.Errorf("WithStain(%d, %v) = %v, %v", f, wrong, got, ok)
			}
		}
	}
	for _, f := range wrongIndices(len(list)) {
		if got, ok := impl.WithStain(list, f, s); ok || !slices.Equal(got, list) {
			t.Errorf("WithStain(%d) = %v, %v; want the same stains", f, got, ok)
		}
	}
	for _, empty := range [][]impl.Stain{nil, {}} {
		for _, f := range wrongIndices(0) {
			if got, ok := impl.WithStain(empty, f, s); ok || len(got) != 0 {
				t.Errorf("WithStain(%d) of the empty list = %v, %v", f, got, ok)
			}
		}
	}
}

func TestColorStains(t *testing.T) {
	a, b, c := stainOf(1, 2, 3), stainOf(500, 0, 500), clearStain()
	table := []impl.Stain{a, b, c}
	cases := []struct {
		name   string
		colors []int
		table  []impl.Stain
		want   []impl.Stain
		ok     bool
	}{
		{"in another order", []int{2, 0, 1, 0}, table, []impl.Stain{c, a, b, a}, true},
		{"one color", []int{2}, table, []impl.Stain{c}, true},
		{"the empty list", nil, table, nil, true},
		{"the empty list and the empty table", nil, nil, nil, true},
		{"the empty table", []int{0}, nil, nil, false},
		{"more than six colors", []int{7, 0}, slices.Concat(table, table, table), []impl.Stain{b, a}, true},
		{"many colors", slices.Repeat([]int{1}, 100), table, slices.Repeat([]impl.Stain{b}, 100), true},
	}
	for _, f := range wrongIndices(3) {
		name := "no such color, " + impl.FormatInt(f)
		cases = append(cases, struct {
			name   string
			colors []int
			table  []impl.Stain
			want   []impl.Stain
			ok     bool
		}{name, []int{0, 1, f}, table, nil, false})
	}
	for _, c := range cases {
		if got, ok := impl.ColorStains(c.colors, c.table); ok != c.ok || !slices.Equal(got, c.want) {
			t.Errorf("%s: ColorStains = %v, %v; want %v, %v", c.name, got, ok, c.want, c.ok)
		}
	}
	for _, wrong := range stainsNotOk {
		for i := range table {
			for _, colors := range [][]int{{0, 1, 2}, {(i + 1) % 3}, nil} {
				if got, ok := impl.ColorStains(colors, changed(table, i, wrong)); ok || len(got) != 0 {
					t.Errorf("ColorStains(%v) with the stain %v = %v, %v", colors, wrong, got, ok)
				}
			}
		}
	}
}

func TestColorsOfAWindowMakeItsLight(t *testing.T) {
	source := rand.New(rand.NewSource(243))
	for name, w := range byName(someWholeWindows(244, 40)) {
		colors, ok := impl.ColorWith(w, 4)
		stains, isStained := impl.ColorStains(colors, randomStains(source, 4))
		if !ok || !isStained || len(stains) != len(facesByAngle(w)) {
			t.Errorf("%s: ColorStains(%v) = %v, %v", name, colors, stains, isStained)
			continue
		}
		if got := lightOf(w, stains); got != lightByHand(w, stains) {
			t.Errorf("%s: LightOf(%v) = %v", name, stains, got)
		}
	}
}

func TestLightLeavesArgumentsAsTheyAre(t *testing.T) {
	source, junk := rand.New(rand.NewSource(245)), stainOf(-7, -7, -7)
	for name, w := range byName(wholeWindows()) {
		roomy, isUntouched := roomyWindow(w)
		stains, areUntouched := roomyOf(randomStains(source, len(facesByAngle(w))), junk, clearStain())
		colors, areColorsUntouched := roomyList([]int{0, 0})
		impl.LightOf(roomy, stains)
		impl.BrightestFace(roomy, stains)
		impl.ShareOfLight(roomy, stains)
		for f := -1; f <= len(stains); f++ {
			checkFreshOf(t, name+", WithStain", junk, func() []impl.Stain {
				list, _ := impl.WithStain(stains, f, clearStain())
				return list
			})
		}
		checkFreshOf(t, name+", ColorStains", junk, func() []impl.Stain {
			list, _ := impl.ColorStains(colors, stains)
			return list
		})
		if !isUntouched() || !areUntouched() || !areColorsUntouched() {
			t.Errorf("%s: an argument is modified, or a result shares its memory", name)
		}
	}
}
