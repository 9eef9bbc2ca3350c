package tests

import (
	"slices"
	"testing"

	"loop.example/g03303/impl"
)

// lengthsOfDays are those of the document.
var lengthsOfDays = []int{490, 580, 705, 830, 935, 990, 965, 875, 755, 630, 520, 465}

// wetsNotOk are just past each limit, and the extreme ints.
var wetsNotOk = []int{-1, -2, 61, 62, leastInt, greatestInt}

func cloudsByHand(month int, wet int) int {
	share := 20 + wet
	if slices.Contains([]int{0, 1, 10, 11}, month) {
		share += 15
	}
	if share > 95 {
		share = 95
	}
	return share
}

// clearByHand counts whole minutes, by hundredths.
func clearByHand(month int, wet int) int {
	return quotient(lengthsOfDays[month]*(100-cloudsByHand(month, wet)), 100)
}

func TestDayLength(t *testing.T) {
	for month, want := range lengthsOfDays {
		if got := impl.DayLength(month); got != want {
			t.Errorf("DayLength(%d) = %d; want %d", month, got, want)
		}
	}
	for _, month := range wrongIndices(12) {
		if got := impl.DayLength(month); got != -1 {
			t.Errorf("DayLength(%d) = %d; want -1", month, got)
		}
	}
}

func TestCloudShareByHand(t *testing.T) {
	cases := []struct{ month, wet, want int }{
		{0, 0, 35}, {1, 0, 35}, {2, 0, 20}, {9, 0, 20}, {10, 0, 35}, {11, 0, 35},
		{0, 10, 45}, {5, 10, 30}, {5, 60, 80}, {2, 60, 80}, {9, 60, 80},
		{0, 59, 94}, {0, 60, 95}, {1, 60, 95}, {10, 60, 95}, {11, 60, 95},
	}
	for _, c := range cases {
		if got := impl.CloudShare(c.month, c.wet); got != c.want {
			t.Errorf("CloudShare(%d, %d) = %d; want %d", c.month, c.wet, got, c.want)
		}
	}
}

func TestClearMinutesByHand(t *testing.T) {
	cases := []struct{ month, wet, want int }{
		{5, 0, 792}, {0, 10, 269}, {0, 0, 318}, {11, 0, 302}, {11, 60, 23}, {0, 60, 24}, {5, 60, 198}, {6, 1, 762},
	}
	for _, c := range cases {
		if got := impl.ClearMinutes(c.month, c.wet); got != c.want {
			t.Errorf("ClearMinutes(%d, %d) = %d; want %d", c.month, c.wet, got, c.want)
		}
	}
}

func TestTheYearMonthByMonth(t *testing.T) {
	for wet := range 61 {
		year, best := 0, 0
		for month := range 12 {
			minutes := clearByHand(month, wet)
			if got, want := impl.CloudShare(month, wet), cloudsByHand(month, wet); got != want {
				t.Errorf("CloudShare(%d, %d) = %d; want %d", month, wet, got, want)
			}
			if got := impl.ClearMinutes(month, wet); got != minutes {
				t.Errorf("ClearMinutes(%d, %d) = %d; want %d", month, wet, got, minutes)
			}
			year += 30 * minutes
			if minutes > clearByHand(best, wet) {
				best = month
			}
		}
		if got := impl.YearMinutes(wet); got != year {
			t.Errorf("YearMinutes(%d) = %d; want %d", wet, got, year)
		}
		if got := impl.BestMonth(wet); got != best {
			t.Errorf("BestMonth(%d) = %d; want %d", wet, got, best)
		}
	}
}

func TestMoreCloudsMeanLessLight(t *testing.T) {
	for wet := range 60 {
		for month := range 12 {
			clear, wetter := impl.ClearMinutes(month, wet), impl.ClearMinutes(month, wet+1)
			if impl.CloudShare(month, wet+1) <= impl.CloudShare(month, wet) || wetter >= clear {
				t.Errorf("in month %d, wet of %d leaves %d minutes and %d leaves %d", month, wet, clear, wet+1, wetter)
			}
		}
		if impl.YearMinutes(wet+1) >= impl.YearMinutes(wet) {
			t.Errorf("YearMinutes(%d) = %d is not less than YearMinutes(%d) = %d", wet+1, impl.YearMinutes(wet+1), wet, impl.YearMinutes(wet))
		}
	}
	if got := impl.YearMinutes(0); got != 200490 {
		t.Errorf("YearMinutes(0) = %d; want 200490", got)
	}
}

func TestMonthsAboveByHand(t *testing.T) {
	all := indicesOf(12)
	cases := []struct {
		name         string
		wet, minutes int
		want         []int
	}{
		{"one month", 0, 780, []int{5}},
		{"just reached", 0, 792, []int{5}},
		{"reached by no month", 0, 793, nil},
		{"just reached by two months", 0, 772, []int{5, 6}},
		{"one minute more", 0, 773, []int{5}},
		{"the first month just reached", 0, 318, []int{0, 1, 2, 3, 4, 5, 6, 7, 8, 9, 10}},
		{"the first month not reached", 0, 319, []int{1, 2, 3, 4, 5, 6, 7, 8, 9, 10}},
		{"the last month just reached", 0, 302, all},
		{"nothing", 0, 0, all},
		{"negative minutes", 0, -1, all},
		{"the least minutes", 60, leastInt, all},
		{"the greatest minutes", 60, greatestInt, nil},
		{"a wet year", 60, 23, all},
		{"a wet year, one minute more", 60, 24, []int{0, 1, 2, 3, 4, 5, 6, 7, 8, 9, 10}},
	}
	for _, c := range cases {
		if got := impl.MonthsAbove(c.wet, c.minutes); !slices.Equal(got, c.want) {
			t.Errorf("%s: MonthsAbove(%d, %d) = %v; want %v", c.name, c.wet, c.minutes, got, c.want)
		}
	}
}

func TestMonthsAboveAllMinutes(t *testing.T) {
	for wet := 0; wet <= 60; wet += 5 {
		for minutes := -2; minutes <= 800; minutes++ {
			want := []int{}
			for month := range 12 {
				if clearByHand(month, wet) >= minutes {
					want = append(want, month)
				}
			}
			if got := impl.MonthsAbove(wet, minutes); !slices.Equal(got, want) {
				t.Errorf("MonthsAbove(%d, %d) = %v; want %v", wet, minutes, got, want)
			}
		}
	}
}

func TestMonthsAndWetnessOutOfRange(t *testing.T) {
	for _, month := range wrongIndices(12) {
		for _, wet := range []int{0, 30, 60, -1, 61} {
			if share, minutes := impl.CloudShare(month, wet), impl.ClearMinutes(month, wet); share != -1 || minutes != -1 {
				t.Errorf("CloudShare(%d, %d) = %d and ClearMinutes = %d; want -1", month, wet, share, minutes)
			}
		}
	}
	for _, wet := range wetsNotOk {
		for month := range 12 {
			if share, minutes := impl.CloudShare(month, wet), impl.ClearMinutes(month, wet); share != -1 || minutes != -1 {
				t.Errorf("CloudShare(%d, %d) = %d and ClearMinutes = %d; want -1", month, wet, share, minutes)
			}
		}
		if year, best := impl.YearMinutes(wet), impl.BestMonth(wet); year != -1 || best != -1 {
			t.Errorf("YearMinutes(%d) = %d and BestMonth = %d; want -1", wet, year, best)
		}
		for _, minutes := range []int{leastInt, -5, -1, 0, 100} {
			if got := impl.MonthsAbove(wet, minutes); len(got) != 0 {
				t.Errorf("MonthsAbove(%d, %d) = %v; want nil", wet, minutes, got)
			}
		}
	}
}

func TestMonthsAreFreshEachTime(t *testing.T) {
	for _, minutes := range []int{-1, 300, 500, 780, 1000} {
		checkFreshOf(t, "MonthsAbove", -7, func() []int { return impl.MonthsAbove(0, minutes) })
	}
	for month, want := range lengthsOfDays {
		if got := impl.DayLength(month); got != want {
			t.Errorf("DayLength(%d) = %d at the end; want %d", month, got, want)
		}
	}
}
