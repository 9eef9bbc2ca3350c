package tests

import (
	"math/rand"
	"slices"
	"testing"

	"loop.example/g03303/impl"
)

// sheetsNotOk hold a side just past each limit and the extreme ints.
var sheetsNotOk = []impl.Sheet{
	{}, {Width: 1}, {Height: 1}, {Width: 0, Height: 40}, {Width: 40, Height: 0}, {Width: -1, Height: 5}, {Width: 5, Height: -1}, {Width: -3, Height: -3},
	{Width: 41, Height: 1}, {Width: 1, Height: 41}, {Width: 41, Height: 41}, {Width: 40, Height: 41}, {Width: 41, Height: 40},
	{Width: leastInt, Height: 1}, {Width: 1, Height: leastInt}, {Width: greatestInt, Height: 1}, {Width: 1, Height: greatestInt},
	{Width: leastInt, Height: leastInt}, {Width: greatestInt, Height: greatestInt},
}

// sidesOf reads the sides of sheets in pairs.
func sidesOf(sides ...int) []impl.Sheet {
	sheets := []impl.Sheet{}
	for i := 0; i < len(sides); i += 2 {
		sheets = append(sheets, impl.Sheet{Width: sides[i], Height: sides[i+1]})
	}
	return sheets
}

func randomSheet(source *rand.Rand, size int) impl.Sheet {
	return impl.Sheet{Width: 1 + source.Intn(size), Height: 1 + source.Intn(size)}
}

// valueByHand tries all cuts, from the whole sheet on. Glass on which no piece
// is as large as the glass may also hold a smaller one.
func valueByHand(s impl.Sheet, pieces []impl.Sheet, values []int) int {
	known := map[impl.Sheet]int{}
	var valueOf func(s impl.Sheet) int
	valueOf = func(s impl.Sheet) int {
		if value, ok := known[s]; ok {
			return value
		}
		best := 0
		for i, p := range pieces {
			if p.Width <= s.Width && p.Height <= s.Height {
				best = max(best, values[i])
			}
		}
		for x := 1; x < s.Width; x++ {
			best = max(best, valueOf(impl.Sheet{Width: x, Height: s.Height})+valueOf(impl.Sheet{Width: s.Width - x, Height: s.Height}))
		}
		for y := 1; y < s.Height; y++ {
			best = max(best, valueOf(impl.Sheet{Width: s.Width, Height: y})+valueOf(impl.Sheet{Width: s.Width, Height: s.Height - y}))
		}
		known[s] = best
		return best
	}
	return valueOf(s)
}

func areasOf(pieces []impl.Sheet) []int {
	areas := []int{}
	for _, p := range pieces {
		areas = append(areas, p.Width*p.Height)
	}
	return areas
}

func TestSheetOk(t *testing.T) {
	for _, s := range sidesOf(1, 1, 1, 40, 40, 1, 40, 40, 10, 6) {
		if !impl.SheetOk(s) {
			t.Errorf("SheetOk(%v) = false", s)
		}
	}
	for width := -2; width <= 43; width++ {
		for height := -2; height <= 43; height++ {
			want := 1 <= width && width <= 40 && 1 <= height && height <= 40
			if got := impl.SheetOk(impl.Sheet{Width: width, Height: height}); got != want {
				t.Errorf("SheetOk(%d, %d) = %v", width, height, got)
			}
		}
	}
	for _, s := range sheetsNotOk {
		if impl.SheetOk(s) {
			t.Errorf("SheetOk(%v) = true", s)
		}
	}
}

func TestFitsSheetAndFewestCutsByHand(t *testing.T) {
	cases := []struct {
		name          string
		s, p          impl.Sheet
		grain, turned bool
		cuts          int
	}{
		{"one square", impl.Sheet{Width: 1, Height: 1}, impl.Sheet{Width: 1, Height: 1}, true, true, 0},
		{"as large as the sheet", impl.Sheet{Width: 10, Height: 6}, impl.Sheet{Width: 10, Height: 6}, true, true, 0},
		{"as wide as the sheet", impl.Sheet{Width: 10, Height: 6}, impl.Sheet{Width: 10, Height: 5}, true, true, 1},
		{"as high as the sheet", impl.Sheet{Width: 10, Height: 6}, impl.Sheet{Width: 3, Height: 6}, true, true, 1},
		{"smaller on both sides", impl.Sheet{Width: 10, Height: 6}, impl.Sheet{Width: 9, Height: 5}, true, true, 2},
		{"one square of the largest sheet", impl.Sheet{Width: 40, Height: 40}, impl.Sheet{Width: 1, Height: 1}, true, true, 2},
		{"too high, but not after a turn", impl.Sheet{Width: 10, Height: 6}, impl.Sheet{Width: 6, Height: 10}, false, true, -1},
		{"too high, and smaller after a turn", impl.Sheet{Width: 10, Height: 6}, impl.Sheet{Width: 2, Height: 7}, false, true, -1},
		{"too wide, but not after a turn", impl.Sheet{Width: 6, Height: 10}, impl.Sheet{Width: 7, Height: 6}, false, true, -1},
		{"too high even after a turn", impl.Sheet{Width: 10, Height: 6}, impl.Sheet{Width: 7, Height: 7}, false, false, -1},
		{"too wide", impl.Sheet{Width: 10, Height: 6}, impl.Sheet{Width: 11, Height: 1}, false, false, -1},
		{"larger than the sheet", impl.Sheet{Width: 3, Height: 3}, impl.Sheet{Width: 4, Height: 4}, false, false, -1},
	}
	for _, c := range cases {
		if got := impl.FitsSheet(c.s, c.p, true); got != c.grain {
			t.Errorf("%s: FitsSheet with grain = %v", c.name, got)
		}
		if got := impl.FitsSheet(c.s, c.p, false); got != c.turned {
			t.Errorf("%s: FitsSheet without grain = %v", c.name, got)
		}
		if got := impl.FewestCuts(c.s, c.p); got != c.cuts {
			t.Errorf("%s: FewestCuts = %d; want %d", c.name, got, c.cuts)
		}
	}
}

func TestMostPiecesByHand(t *testing.T) {
	cases := []struct {
		s, p impl.Sheet
		want int
	}{
		{impl.Sheet{Width: 10, Height: 6}, impl.Sheet{Width: 3, Height: 6}, 3},
		{impl.Sheet{Width: 10, Height: 6}, impl.Sheet{Width: 6, Height: 3}, 2},
		{impl.Sheet{Width: 10, Height: 6}, impl.Sheet{Width: 10, Height: 6}, 1},
		{impl.Sheet{Width: 10, Height: 6}, impl.Sheet{Width: 6, Height: 10}, 0},
		{impl.Sheet{Width: 10, Height: 6}, impl.Sheet{Width: 11, Height: 1}, 0},
		{impl.Sheet{Width: 10, Height: 6}, impl.Sheet{Width: 1, Height: 7}, 0},
		{impl.Sheet{Width: 5, Height: 5}, impl.Sheet{Width: 2, Height: 3}, 2},
		{impl.Sheet{Width: 40, Height: 40}, impl.Sheet{Width: 1, Height: 1}, 1600},
		{impl.Sheet{Width: 1, Height: 1}, impl.Sheet{Width: 1, Height: 1}, 1},
	}
	for _, c := range cases {
		if got := impl.MostPieces(c.s, c.p); got != c.want {
			t.Errorf("MostPieces(%v, %v) = %d; want %d", c.s, c.p, got, c.want)
		}
	}
}

func TestSheetsThatAreNotValid(t *testing.T) {
	fine := impl.Sheet{Width: 10, Height: 6}
	for _, wrong := range sheetsNotOk {
		for _, pair := range [][2]impl.Sheet{{wrong, fine}, {fine, wrong}, {wrong, wrong}} {
			s, p := pair[0], pair[1]
			if impl.FitsSheet(s, p, true) || impl.FitsSheet(s, p, false) {
				t.Errorf("FitsSheet(%v, %v) = true", s, p)
			}
			if cuts, most := impl.FewestCuts(s, p), impl.MostPieces(s, p); cuts != -1 || most != 0 {
				t.Errorf("FewestCuts(%v, %v) = %d and MostPieces = %d", s, p, cuts, most)
			}
			if got := impl.BestValue(s, []impl.Sheet{p}, []int{5}); got != -1 {
				t.Errorf("BestValue(%v, %v) = %d; want -1", s, p, got)
			}
			if got := impl.WasteOf(s, []impl.Sheet{p}); got != -1 {
				t.Errorf("WasteOf(%v, %v) = %d; want -1", s, p, got)
			}
		}
		if value, waste := impl.BestValue(wrong, nil, nil), impl.WasteOf(wrong, nil); value != -1 || waste != -1 {
			t.Errorf("BestValue(%v) = %d and WasteOf = %d without pieces", wrong, value, waste)
		}
		last := []impl.Sheet{fine, fine, wrong}
		if value, waste := impl.BestValue(fine, last, []int{1, 1, 1}), impl.WasteOf(fine, last); value != -1 || waste != -1 {
			t.Errorf("BestValue = %d and WasteOf = %d with %v as the last piece", value, waste, wrong)
		}
	}
}

func TestBestValueByHand(t *testing.T) {
	square := impl.Sheet{Width: 5, Height: 5}
	cases := []struct {
		name   string
		s      impl.Sheet
		pieces []impl.Sheet
		values []int
		want   int
	}{
		{"no pieces", square, nil, nil, 0},
		{"one square", impl.Sheet{Width: 1, Height: 1}, sidesOf(1, 1), []int{7}, 7},
		{"rows", impl.Sheet{Width: 10, Height: 6}, sidesOf(3, 6), []int{5}, 15},
		{"as large as the sheet", square, sidesOf(5, 5), []int{1000}, 1000},
		{"a piece that fits only after a turn", impl.Sheet{Width: 10, Height: 6}, sidesOf(6, 10), []int{1000}, 0},
		{"too large a piece, and a small one", square, sidesOf(6, 1, 2, 2), []int{1000, 3}, 12},
		{"the same piece with two values", square, sidesOf(2, 2, 2, 2), []int{3, 4}, 16},
		{"pieces without a value", square, sidesOf(2, 2, 1, 1), []int{0, 0}, 0},
		{"two pieces side by side", impl.Sheet{Width: 5, Height: 2}, sidesOf(2, 2, 3, 2), []int{4, 7}, 11},
		{"two pieces on top of each other", impl.Sheet{Width: 2, Height: 5}, sidesOf(2, 2, 2, 3), []int{4, 7}, 11},
		// Four oblongs around one square would fill the sheet, but no cut from
		// edge to edge begins this pattern.
		{"a windmill", square, sidesOf(3, 2, 2, 3, 1, 1), []int{100, 100, 1}, 307},
		{"the greatest values", impl.Sheet{Width: 40, Height: 40}, sidesOf(1, 1, 2, 2), []int{1000, 1000}, 1600000},
		{"six pieces", impl.Sheet{Width: 6, Height: 1}, sidesOf(1, 1, 2, 1, 3, 1, 4, 1, 5, 1, 6, 1), []int{1, 5, 8, 9, 10, 15}, 16},
	}
	for _, c := range cases {
		if got := impl.BestValue(c.s, c.pieces, c.values); got != c.want {
			t.Errorf("%s: BestValue = %d; want %d", c.name, got, c.want)
		}
	}
}

func TestBestValueTriesAllCuts(t *testing.T) {
	source := rand.New(rand.NewSource(20))
	for range 1500 {
		s, pieces, values := randomSheet(source, 14), []impl.Sheet{}, []int{}
		for range source.Intn(7) {
			pieces = append(pieces, randomSheet(source, 7))
			values = append(values, source.Intn(30))
		}
		if got, want := impl.BestValue(s, pieces, values), valueByHand(s, pieces, values); got != want {
			t.Errorf("BestValue(%v, %v, %v) = %d; want %d", s, pieces, values, got, want)
		}
		want := s.Width*s.Height - valueByHand(s, pieces, areasOf(pieces))
		if got := impl.WasteOf(s, pieces); got != want {
			t.Errorf("WasteOf(%v, %v) = %d; want %d", s, pieces, got, want)
		}
	}
	large := impl.Sheet{Width: 40, Height: 39}
	pieces, values := sidesOf(7, 11, 13, 5, 3, 17, 19, 19, 23, 2, 9, 9), []int{80, 66, 50, 370, 47, 83}
	if got, want := impl.BestValue(large, pieces, values), valueByHand(large, pieces, values); got != want {
		t.Errorf("BestValue of a large sheet = %d; want %d", got, want)
	}
}

func TestPiecesOfOneKindAreCutInRowsAndColumns(t *testing.T) {
	for _, s := range sidesOf(1, 1, 1, 9, 9, 1, 7, 10, 12, 12, 40, 17) {
		for width := 1; width <= 13; width++ {
			for height := 1; height <= 13; height++ {
				p := impl.Sheet{Width: width, Height: height}
				most := impl.MostPieces(s, p)
				if got := impl.BestValue(s, []impl.Sheet{p}, []int{9}); got != 9*most {
					t.Errorf("BestValue(%v, %v) = %d for %d pieces", s, p, got, most)
				}
				columns, rows := 0, 0
				for columns*width+width <= s.Width {
					columns++
				}
				for rows*height+height <= s.Height {
					rows++
				}
				if most != columns*rows {
					t.Errorf("MostPieces(%v, %v) = %d; want %d", s, p, most, columns*rows)
				}
				if got, want := impl.WasteOf(s, []impl.Sheet{p}), s.Width*s.Height-most*width*height; got != want {
					t.Errorf("WasteOf(%v, %v) = %d; want %d", s, p, got, want)
				}
				if fits := impl.FitsSheet(s, p, true); fits != (most > 0) {
					t.Errorf("FitsSheet(%v, %v) = %v for %d pieces", s, p, fits, most)
				}
			}
		}
	}
}

func TestNoPieceIsWorthMoreThanItsGlass(t *testing.T) {
	source := rand.New(rand.NewSource(201))
	for range 300 {
		s, pieces := randomSheet(source, 40), []impl.Sheet{}
		for range source.Intn(7) {
			pieces = append(pieces, randomSheet(source, 20))
		}
		waste := impl.WasteOf(s, pieces)
		if waste < 0 || waste > s.Width*s.Height {
			t.Errorf("WasteOf(%v, %v) = %d", s, pieces, waste)
		}
		if value := impl.BestValue(s, pieces, areasOf(pieces)); value != s.Width*s.Height-waste {
			t.Errorf("WasteOf(%v, %v) = %d, but the pieces have %d", s, pieces, waste, value)
		}
		if more := append(pieces, impl.Sheet{Width: 1, Height: 1}); len(more) <= 6 && impl.WasteOf(s, more) != 0 {
			t.Errorf("WasteOf(%v, %v) = %d; want 0", s, more, impl.WasteOf(s, more))
		}
	}
}

func TestLimitsOfPieces(t *testing.T) {
	s, p := impl.Sheet{Width: 8, Height: 8}, impl.Sheet{Width: 8, Height: 4}
	six, seven := slices.Repeat([]impl.Sheet{p}, 6), slices.Repeat([]impl.Sheet{p}, 7)
	cases := []struct {
		name   string
		pieces []impl.Sheet
		values []int
		want   int
	}{
		{"6 pieces", six, []int{1, 2, 3, 4, 5, 6}, 12},
		{"7 pieces", seven, []int{1, 2, 3, 4, 5, 6, 7}, -1},
		{"7 pieces and 6 values", seven, []int{1, 2, 3, 4, 5, 6}, -1},
		{"many pieces", slices.Repeat([]impl.Sheet{p}, 1000), slices.Repeat([]int{1}, 1000), -1},
		{"a value of 0", six[:1], []int{0}, 0},
		{"a value of 1000", six[:1], []int{1000}, 2000},
		{"a value of 1001", six[:1], []int{1001}, -1},
		{"a negative value", six[:1], []int{-1}, -1},
		{"the last value is too great", six[:3], []int{1, 1, 1001}, -1},
		{"the last value is negative", six[:3], []int{1, 1, -1}, -1},
		{"the greatest int", six[:1], []int{greatestInt}, -1},
		{"the least int", six[:1], []int{leastInt}, -1},
		{"a value too few", six[:2], []int{5}, -1},
		{"a value too many", six[:2], []int{5, 5, 5}, -1},
		{"no values", six[:1], nil, -1},
		{"a value without a piece", nil, []int{5}, -1},
	}
	for _, c := range cases {
		if got := impl.BestValue(s, c.pieces, c.values); got != c.want {
			t.Errorf("%s: BestValue = %d; want %d", c.name, got, c.want)
		}
	}
	if six, seven := impl.WasteOf(s, six), impl.WasteOf(s, seven); six != 0 || seven != -1 {
		t.Errorf("WasteOf 6 pieces = %d and of 7 pieces = %d", six, seven)
	}
}

func TestWasteByHand(t *testing.T) {
	full := impl.Sheet{Width: 40, Height: 40}
	cases := []struct {
		name   string
		s      impl.Sheet
		pieces []impl.Sheet
		want   int
	}{
		{"no pieces", full, nil, 1600},
		{"no pieces of one square", impl.Sheet{Width: 1, Height: 1}, nil, 1},
		{"all of the glass", full, sidesOf(40, 40), 0},
		{"an area of 1000", full, sidesOf(40, 25), 600},
		{"an area greater than 1000", full, sidesOf(40, 26), 560},
		{"an area of 1521", full, sidesOf(39, 39), 79},
		{"an area greater than 1000, and a small piece", full, sidesOf(40, 39, 3, 1), 1},
		{"a piece that is too large", impl.Sheet{Width: 10, Height: 6}, sidesOf(6, 10), 60},
		{"rows and columns", impl.Sheet{Width: 10, Height: 6}, sidesOf(3, 6), 6},
		{"a windmill", impl.Sheet{Width: 5, Height: 5}, sidesOf(3, 2, 2, 3), 7},
	}
	for _, c := range cases {
		if got := impl.WasteOf(c.s, c.pieces); got != c.want {
			t.Errorf("%s: WasteOf = %d; want %d", c.name, got, c.want)
		}
	}
}

func TestSheetsLeaveArgumentsAsTheyAre(t *testing.T) {
	pieces, arePiecesUntouched := roomyOf(sidesOf(3, 2, 2, 3, 7, 1), sidesOf(1, 1, 5, 5)...)
	values, areValuesUntouched := roomyList([]int{9, 8, 30})
	s := impl.Sheet{Width: 11, Height: 9}
	value, waste := impl.BestValue(s, pieces, values), impl.WasteOf(s, pieces)
	if impl.BestValue(s, pieces, values) != value || impl.WasteOf(s, pieces) != waste {
		t.Error("a second call returns something else")
	}
	if !arePiecesUntouched() || !areValuesUntouched() {
		t.Error("an argument is modified")
	}
}
