package tests

import (
	"math/rand"
	"slices"
	"testing"

	"loop.example/g03303/impl"
)

// recipeOf gives the sand what is left of 1000.
func recipeOf(ash int, lime int, metal int) impl.Recipe {
	return impl.Recipe{Sand: 1000 - ash - lime - metal, Ash: ash, Lime: lime, Metal: metal}
}

// recipesNotOk have a number just past each limit, the extreme ints, or another
// sum.
var recipesNotOk = []impl.Recipe{
	{}, {Sand: 999}, {Sand: 1001}, {Sand: 999, Ash: 2}, {Sand: 600, Ash: 200, Lime: 199}, {Sand: 600, Ash: 200, Lime: 200, Metal: 1},
	{Sand: 1001, Ash: -1}, {Sand: -1, Ash: 1001}, {Sand: -1, Ash: 501, Lime: 500}, {Sand: 1001, Lime: -1}, {Lime: 1001, Metal: -1},
	{Metal: 1001, Lime: -1}, {Sand: 1001, Metal: -1}, {Sand: 500, Ash: 501, Lime: -1}, {Sand: 500, Ash: 501, Metal: -1}, {Sand: 500, Lime: 501, Ash: -1},
	{Sand: leastInt, Ash: greatestInt, Lime: 1000, Metal: 1}, {Sand: greatestInt, Ash: greatestInt, Lime: 1002}, {Sand: leastInt, Ash: leastInt, Lime: 1000},
}

func partsOfRecipe(r impl.Recipe) []int { return []int{r.Sand, r.Ash, r.Lime, r.Metal} }

func distanceByHand(r impl.Recipe, s impl.Recipe) int {
	distance := 0
	for i, part := range partsOfRecipe(r) {
		distance += max(part, partsOfRecipe(s)[i]) - min(part, partsOfRecipe(s)[i])
	}
	return distance
}

func nearestByHand(list []impl.Recipe, r impl.Recipe) int {
	for distance := 0; distance <= 2000; distance++ {
		i := slices.IndexFunc(list, func(s impl.Recipe) bool { return distanceByHand(s, r) == distance })
		if i >= 0 {
			return i
		}
	}
	return -1
}

// groupsByHand lowers the groups along all steps until nothing changes.
func groupsByHand(list []impl.Recipe, limit int) []int {
	groups := indicesOf(len(list))
	for range list {
		for i, r := range list {
			for j, s := range list {
				if distanceByHand(r, s) <= limit {
					groups[i] = min(groups[i], groups[j])
				}
			}
		}
	}
	return groups
}

// randomRecipe is near to others if scale is great.
func randomRecipe(source *rand.Rand, scale int) impl.Recipe {
	steps := 300/scale + 1
	return recipeOf(scale*source.Intn(steps), scale*source.Intn(steps), scale*source.Intn(steps))
}

func randomRecipes(source *rand.Rand, count int, scale int) []impl.Recipe {
	list := []impl.Recipe{}
	for range count {
		list = append(list, randomRecipe(source, scale))
	}
	return list
}

func TestRecipeOk(t *testing.T) {
	fine := []impl.Recipe{
		{Sand: 1000}, {Ash: 1000}, {Lime: 1000}, {Metal: 1000}, {Sand: 250, Ash: 250, Lime: 250, Metal: 250},
		{Sand: 997, Ash: 1, Lime: 1, Metal: 1}, {Sand: 600, Ash: 200, Lime: 200},
	}
	for _, r := range fine {
		if !impl.RecipeOk(r) || impl.DistanceOf(r, r) != 0 {
			t.Errorf("RecipeOk(%v) = false", r)
		}
	}
	for _, r := range recipesNotOk {
		if impl.RecipeOk(r) {
			t.Errorf("RecipeOk(%v) = true", r)
		}
		for _, s := range append(slices.Clone(fine), recipesNotOk...) {
			if one, other := impl.DistanceOf(r, s), impl.DistanceOf(s, r); one != -1 || other != -1 {
				t.Errorf("DistanceOf(%v, %v) = %d and the other way %d; want -1", r, s, one, other)
			}
		}
	}
}

func TestTheDistanceOfRecipesIsOne(t *testing.T) {
	cases := []struct {
		r, s impl.Recipe
		want int
	}{
		{recipeOf(200, 200, 0), recipeOf(205, 200, 5), 20},
		{recipeOf(200, 200, 0), recipeOf(201, 200, 0), 2},
		{recipeOf(0, 0, 0), recipeOf(1000, 0, 0), 2000},
		{recipeOf(0, 1000, 0), recipeOf(0, 0, 1000), 2000},
		{recipeOf(10, 20, 30), recipeOf(30, 20, 10), 40},
		{recipeOf(10, 20, 30), recipeOf(20, 30, 10), 40},
		{recipeOf(10, 20, 30), recipeOf(10, 20, 30), 0},
	}
	for _, c := range cases {
		if one, other := impl.DistanceOf(c.r, c.s), impl.DistanceOf(c.s, c.r); one != c.want || other != c.want {
			t.Errorf("DistanceOf(%v, %v) = %d and the other way %d; want %d", c.r, c.s, one, other, c.want)
		}
	}
	source := rand.New(rand.NewSource(34))
	for range 3000 {
		scale := []int{1, 50, 100}[source.Intn(3)]
		r, s, u := randomRecipe(source, scale), randomRecipe(source, scale), randomRecipe(source, scale)
		distance := impl.DistanceOf(r, s)
		if distance != distanceByHand(r, s) || distance != impl.DistanceOf(s, r) || (distance == 0) != (r == s) || distance < 0 || distance > 2000 {
			t.Errorf("DistanceOf(%v, %v) = %d", r, s, distance)
		}
		if distance > impl.DistanceOf(r, u)+impl.DistanceOf(u, s) {
			t.Errorf("the way from %v to %v is shorter over %v", r, s, u)
		}
	}
}

func TestNearestRecipeByHand(t *testing.T) {
	a, b, c := recipeOf(200, 200, 0), recipeOf(205, 200, 5), recipeOf(300, 200, 0)
	cases := []struct {
		name    string
		list    []impl.Recipe
		r       impl.Recipe
		want    int
		forgery int // the greatest limit for which it is forged
	}{
		{"the second one", []impl.Recipe{c, b}, a, 1, 19},
		{"the same recipe", []impl.Recipe{c, b, a}, a, 2, -1},
		{"equal recipes", []impl.Recipe{c, a, b, a}, a, 1, -1},
		{"the same distance, above and below", []impl.Recipe{recipeOf(210, 200, 0), recipeOf(190, 200, 0), recipeOf(200, 190, 0)}, a, 0, 19},
		{"one recipe", []impl.Recipe{c}, a, 0, 199},
		{"as far as can be", []impl.Recipe{recipeOf(1000, 0, 0)}, recipeOf(0, 0, 0), 0, 1999},
		{"20 recipes", append(slices.Repeat([]impl.Recipe{c}, 19), b), a, 19, 19},
	}
	for _, c := range cases {
		if got := impl.NearestRecipe(c.list, c.r); got != c.want {
			t.Errorf("%s: NearestRecipe = %d; want %d", c.name, got, c.want)
		}
		for _, limit := range []int{0, 1, 2000, max(c.forgery, 0), c.forgery + 1} {
			if got := impl.IsForged(c.list, c.r, limit); got != (limit <= c.forgery) {
				t.Errorf("%s: IsForged with the limit %d = %v", c.name, limit, got)
			}
		}
		for _, limit := range []int{-1, 2001, leastInt, greatestInt} {
			if impl.IsForged(c.list, c.r, limit) {
				t.Errorf("%s: IsForged with the limit %d = true", c.name, limit)
			}
		}
	}
}

func TestAverageOf(t *testing.T) {
	a, b := recipeOf(200, 200, 0), recipeOf(205, 200, 5)
	cases := []struct {
		name string
		list []impl.Recipe
		want impl.Recipe
	}{
		{"rounded down", []impl.Recipe{a, b}, impl.Recipe{Sand: 596, Ash: 202, Lime: 200, Metal: 2}},
		{"one recipe", []impl.Recipe{b}, b},
		{"equal recipes", slices.Repeat([]impl.Recipe{b}, 20), b},
		{"all three are rounded down", []impl.Recipe{recipeOf(0, 0, 0), recipeOf(0, 0, 0), recipeOf(2, 2, 2)}, recipeOf(0, 0, 0)},
		{"no rounding", []impl.Recipe{recipeOf(0, 0, 0), recipeOf(2, 4, 6)}, recipeOf(1, 2, 3)},
		{"without sand", []impl.Recipe{recipeOf(1000, 0, 0), recipeOf(0, 1000, 0), recipeOf(0, 0, 1000)}, impl.Recipe{Sand: 1, Ash: 333, Lime: 333, Metal: 333}},
		{"sand alone", []impl.Recipe{recipeOf(0, 0, 0), recipeOf(0, 0, 0)}, impl.Recipe{Sand: 1000}},
	}
	for _, c := range cases {
		if got, ok := impl.AverageOf(c.list); !ok || got != c.want || !impl.RecipeOk(got) {
			t.Errorf("%s: AverageOf = %v, %v; want %v", c.name, got, ok, c.want)
		}
	}
	source := rand.New(rand.NewSource(340))
	for range 300 {
		list := randomRecipes(source, 1+source.Intn(20), 1)
		sum := [4]int{}
		for _, r := range list {
			for i, part := range partsOfRecipe(r) {
				sum[i] += part
			}
		}
		want := recipeOf(sum[1]/len(list), sum[2]/len(list), sum[3]/len(list))
		if got, ok := impl.AverageOf(list); !ok || got != want || !impl.RecipeOk(got) {
			t.Errorf("AverageOf(%v) = %v, %v; want %v", list, got, ok, want)
		}
	}
}

func TestGroupsByHand(t *testing.T) {
	a, b, c := recipeOf(200, 200, 0), recipeOf(205, 200, 5), recipeOf(300, 200, 0)
	row := []impl.Recipe{}
	for i := range 20 {
		row = append(row, recipeOf(10*i, 0, 0))
	}
	backwards := slices.Clone(row)
	slices.Reverse(backwards)
	cases := []struct {
		name  string
		list  []impl.Recipe
		limit int
		want  []int
	}{
		{"two groups", []impl.Recipe{a, c, b}, 20, []int{0, 1, 0}},
		{"just not far enough", []impl.Recipe{a, c, b}, 19, []int{0, 1, 2}},
		{"all in one", []impl.Recipe{a, c, b}, 200, []int{0, 0, 0}},
		{"by a third recipe alone", []impl.Recipe{recipeOf(0, 0, 0), recipeOf(20, 0, 0), recipeOf(10, 0, 0)}, 20, []int{0, 0, 0}},
		{"by a third recipe that is too far", []impl.Recipe{recipeOf(0, 0, 0), recipeOf(20, 0, 0), recipeOf(10, 0, 0)}, 19, []int{0, 1, 2}},
		{"equal recipes", []impl.Recipe{c, a, c, a}, 0, []int{0, 1, 0, 1}},
		{"the empty list", nil, 0, nil},
		{"the empty list, with the greatest limit", []impl.Recipe{}, 2000, nil},
		{"one recipe", []impl.Recipe{a}, 0, []int{0}},
		{"the greatest limit", []impl.Recipe{recipeOf(1000, 0, 0), recipeOf(0, 0, 0)}, 2000, []int{0, 0}},
		{"one less", []impl.Recipe{recipeOf(1000, 0, 0), recipeOf(0, 0, 0)}, 1999, []int{0, 1}},
		{"a row of 20", row, 20, make([]int, 20)},
		{"a row from its end", backwards, 20, make([]int, 20)},
		{"a row of single ones", row, 19, indicesOf(20)},
		{"two groups in turn", []impl.Recipe{a, recipeOf(0, 0, 500), b, recipeOf(0, 0, 501), c}, 200, []int{0, 1, 0, 1, 0}},
	}
	for _, c := range cases {
		if got := impl.GroupsOf(c.list, c.limit); !slices.Equal(got, c.want) {
			t.Errorf("%s: GroupsOf = %v; want %v", c.name, got, c.want)
		}
	}
}

func TestGroupsHangTogetherByTheDistance(t *testing.T) {
	source := rand.New(rand.NewSource(341))
	for range 300 {
		list := randomRecipes(source, source.Intn(21), []int{1, 50, 100}[source.Intn(3)])
		limit := source.Intn(400)
		if got, want := impl.GroupsOf(list, limit), groupsByHand(list, limit); !slices.Equal(got, want) {
			t.Errorf("GroupsOf(%v, %d) = %v; want %v", list, limit, got, want)
		}
		r := randomRecipe(source, 50)
		nearest := nearestByHand(list, r)
		if got := impl.NearestRecipe(list, r); got != nearest {
			t.Errorf("NearestRecipe(%v, %v) = %d; want %d", list, r, got, nearest)
		}
		isForged := nearest >= 0 && distanceByHand(list[nearest], r) > limit
		if got := impl.IsForged(list, r, limit); got != isForged {
			t.Errorf("IsForged(%v, %v, %d) = %v", list, r, limit, got)
		}
		// What is not forged joins a group; what is forged makes its own.
		if len(list) > 0 && len(list) < 20 {
			groups := impl.GroupsOf(append(slices.Clone(list), r), limit)
			if isAlone := groups[len(list)] == len(list); isAlone != isForged {
				t.Errorf("GroupsOf(%v and %v, %d) = %v", list, r, limit, groups)
			}
		}
	}
}

// checkNoRecipes needs a list that is not valid.
func checkNoRecipes(t *testing.T, name string, list []impl.Recipe) {
	t.Helper()
	r := recipeOf(200, 200, 0)
	for _, limit := range []int{0, 100, 2000} {
		if got, groups := impl.IsForged(list, r, limit), impl.GroupsOf(list, limit); got || len(groups) != 0 {
			t.Errorf("%s: IsForged = %v and GroupsOf = %v", name, got, groups)
		}
	}
	nearest := impl.NearestRecipe(list, r)
	if average, ok := impl.AverageOf(list); nearest != -1 || ok || average != (impl.Recipe{}) {
		t.Errorf("%s: NearestRecipe = %d and AverageOf = %v, %v", name, nearest, average, ok)
	}
}

func TestRecipesThatAreNotValid(t *testing.T) {
	fine := recipeOf(100, 200, 300)
	checkNoRecipes(t, "nil", nil)
	checkNoRecipes(t, "the empty list", []impl.Recipe{})
	checkNoRecipes(t, "21 recipes", slices.Repeat([]impl.Recipe{fine}, 21))
	checkNoRecipes(t, "many recipes", slices.Repeat([]impl.Recipe{fine}, 1000))
	for _, wrong := range recipesNotOk {
		for i := range 3 {
			checkNoRecipes(t, "a recipe that is not valid", changed([]impl.Recipe{fine, fine, fine}, i, wrong))
		}
		if nearest, forged := impl.NearestRecipe([]impl.Recipe{fine}, wrong), impl.IsForged([]impl.Recipe{fine}, wrong, 0); nearest != -1 || forged {
			t.Errorf("NearestRecipe of %v = %d and IsForged = %v", wrong, nearest, forged)
		}
	}
	for _, limit := range []int{-1, 2001, leastInt, greatestInt} {
		if got := impl.GroupsOf([]impl.Recipe{fine, fine}, limit); len(got) != 0 {
			t.Errorf("GroupsOf with the limit %d = %v; want nil", limit, got)
		}
	}
}

func TestRecipesLeaveArgumentsAsTheyAre(t *testing.T) {
	source := rand.New(rand.NewSource(342))
	for _, count := range []int{0, 1, 7, 20, 21} {
		list, isUntouched := roomyOf(randomRecipes(source, count, 50), impl.Recipe{Sand: -7}, recipeOf(1, 2, 3))
		checkFresh(t, "GroupsOf", func() [][]int { return [][]int{impl.GroupsOf(list, 200)} })
		impl.NearestRecipe(list, recipeOf(1, 2, 3))
		impl.IsForged(list, recipeOf(1, 2, 3), 10)
		impl.AverageOf(list)
		if !isUntouched() {
			t.Errorf("a list of %d recipes is modified", count)
		}
	}
}
