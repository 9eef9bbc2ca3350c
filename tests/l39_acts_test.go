package tests

import (
	"fmt"
	"maps"
	"math/rand"
	"slices"
	"testing"

	"loop.example/g03303/impl"
)

func actOf(kind int, a int, b int) impl.Act { return impl.Act{Kind: kind, A: a, B: b} }

// isActFine follows the document word by word.
func isActFine(a impl.Act) bool {
	isIndex := func(n int) bool { return n >= 0 && n <= 40 }
	switch a.Kind {
	case impl.AcAdd, impl.AcSwap:
		return isIndex(a.A) && isIndex(a.B)
	case impl.AcStore:
		return isIndex(a.A) && a.B >= 1 && a.B <= 50
	case impl.AcDrop, impl.AcJoin, impl.AcColor, impl.AcFetch:
		return isIndex(a.A) && a.B == 0
	case impl.AcUndo, impl.AcPanes:
		return a.A == 0 && a.B == 0
	}
	return false
}

// actsNotOk have a kind or a number just past each limit, or a number where
// there must be 0.
func actsNotOk() []impl.Act {
	list := []impl.Act{
		{}, actOf(10, 0, 0), actOf(-1, 0, 0), actOf(leastInt, 0, 0), actOf(greatestInt, 0, 0),
		actOf(impl.AcStore, 0, 0), actOf(impl.AcStore, 0, 51), actOf(impl.AcStore, 0, -1), actOf(impl.AcStore, -1, 1), actOf(impl.AcStore, 41, 1),
	}
	for _, wrong := range []int{-1, 41, leastInt, greatestInt} {
		for kind := impl.AcAdd; kind <= impl.AcPanes; kind++ {
			list = append(list, actOf(kind, wrong, 0), actOf(kind, wrong, 1), actOf(kind, 7, wrong))
		}
	}
	for _, kind := range []int{impl.AcDrop, impl.AcJoin, impl.AcUndo, impl.AcColor, impl.AcFetch, impl.AcPanes} {
		list = append(list, actOf(kind, 0, 1), actOf(kind, 7, 1))
	}
	list = append(list, actOf(impl.AcUndo, 1, 0), actOf(impl.AcPanes, 1, 0))
	// A crate may have a greater number than any index.
	return slices.DeleteFunc(list, func(a impl.Act) bool { return a == actOf(impl.AcStore, 7, 41) })
}

// actByHand returns the same studio if nothing is done.
func actByHand(s impl.Studio, a impl.Act) (impl.Studio, int) {
	if !isStudioFine(s) || !isActFine(a) {
		return s, -1
	}
	after, ok := s, false
	switch a.Kind {
	case impl.AcAdd:
		after, ok = changeByHand(s, impl.StAdd, a.A, a.B)
	case impl.AcDrop:
		after, ok = changeByHand(s, impl.StDrop, a.A, 0)
	case impl.AcJoin:
		after, ok = changeByHand(s, impl.StJoin, a.A, 0)
	case impl.AcUndo:
		after, ok = undoByHand(s)
	case impl.AcColor:
		after, ok = colorByHand(s, a.A)
	case impl.AcSwap:
		after, ok = swapColorsByHand(s, a.A, a.B)
	case impl.AcStore:
		after, ok = storeByHand(s, a.A, a.B)
	case impl.AcFetch:
		after, ok = fetchByHand(s, a.A)
	case impl.AcPanes:
		now := s.Draft.Now
		return s, len(now.Leads) - len(now.Nodes) + partsOf(now)
	}
	if !ok {
		return s, 0
	}
	return after, 1
}

func runByHand(s impl.Studio, acts []impl.Act) (impl.Studio, []int) {
	numbers := []int{}
	for _, a := range acts {
		after, number := actByHand(s, a)
		s, numbers = after, append(numbers, number)
	}
	return s, numbers
}

func formatByHand(s impl.Studio) []string {
	colors, stored := "colors", "stored"
	for _, color := range s.Colors {
		colors += fmt.Sprintf(" %d", color)
	}
	for _, place := range returnedByHand(s.Deposits) {
		stored += fmt.Sprintf(" %d", place)
	}
	steps, fund := fmt.Sprintf("steps %d", len(s.Draft.Steps)), fmt.Sprintf("fund %d", s.Fund)
	return []string{textByHand(s.Draft.Now), colors, stored, steps, fund}
}

// randomAct is often possible.
func randomAct(source *rand.Rand, s impl.Studio) impl.Act {
	faces := 1 + len(facesByAngle(s.Draft.Now))
	switch source.Intn(10) {
	case 0, 1, 2:
		kind, a, b := randomStep(source, s.Draft.Now)
		if kind != impl.StAdd {
			b = 0
		}
		// The kinds of acts that are steps have the numbers of the steps.
		return actOf(kind, a, b)
	case 3:
		return actOf(impl.AcUndo, 0, 0)
	case 4:
		return actOf(impl.AcColor, 2+source.Intn(5), 0)
	case 5:
		return actOf(impl.AcSwap, source.Intn(faces), source.Intn(6))
	case 6:
		return actOf(impl.AcStore, source.Intn(faces), 1+source.Intn(3))
	case 7:
		return actOf(impl.AcPanes, 0, 0)
	}
	return actOf(impl.AcFetch, source.Intn(6), 0)
}

func TestKindsOfActs(t *testing.T) {
	kinds := []int{impl.AcAdd, impl.AcDrop, impl.AcJoin, impl.AcUndo, impl.AcColor, impl.AcSwap, impl.AcStore, impl.AcFetch, impl.AcPanes}
	if !slices.Equal(kinds, indicesOf(10)[1:]) || impl.MaxActs != 40 {
		t.Error("a constant differs from the document")
	}
}

func TestSampleStudio(t *testing.T) {
	sample := impl.SampleStudio()
	if !sameStudio(sample, studioOf(draftOf(impl.SampleWindow()), 200)) || !impl.StudioOk(sample) {
		t.Errorf("SampleStudio = %v", sample)
	}
	checkFreshStudio(t, "SampleStudio", impl.SampleStudio)
}

func TestActOk(t *testing.T) {
	numbers := []int{leastInt, -41, -1, 0, 1, 2, 39, 40, 41, 49, 50, 51, 200, greatestInt}
	for _, kind := range append(indicesOf(12), -1, -2, leastInt, greatestInt) {
		for _, a := range numbers {
			for _, b := range numbers {
				if got := impl.ActOk(actOf(kind, a, b)); got != isActFine(actOf(kind, a, b)) {
					t.Errorf("ActOk(%d, %d, %d) = %v", kind, a, b, got)
				}
			}
		}
	}
	for _, a := range actsNotOk() {
		if impl.ActOk(a) {
			t.Errorf("ActOk(%v) = true", a)
		}
	}
}

func checkAct(t *testing.T, name string, s impl.Studio, a impl.Act) {
	t.Helper()
	want, number := actByHand(s, a)
	if got, n := impl.DoAct(s, a); n != number || !sameStudio(got, want) {
		t.Errorf("%s: DoAct(%v) = %v, %d; want %v, %d", name, a, got, n, want, number)
	}
}

func TestActsInAllStudios(t *testing.T) {
	acts := []impl.Act{
		actOf(impl.AcAdd, 4, 3), actOf(impl.AcAdd, 3, 4), actOf(impl.AcAdd, 0, 1), actOf(impl.AcAdd, 40, 40), actOf(impl.AcAdd, 0, 5),
		actOf(impl.AcDrop, 7, 0), actOf(impl.AcDrop, 0, 0), actOf(impl.AcDrop, 8, 0), actOf(impl.AcDrop, 40, 0),
		actOf(impl.AcJoin, 1, 0), actOf(impl.AcJoin, 4, 0), actOf(impl.AcJoin, 40, 0), actOf(impl.AcUndo, 0, 0),
		actOf(impl.AcColor, 0, 0), actOf(impl.AcColor, 2, 0), actOf(impl.AcColor, 3, 0), actOf(impl.AcColor, 6, 0), actOf(impl.AcColor, 7, 0), actOf(impl.AcColor, 40, 0),
		actOf(impl.AcSwap, 0, 1), actOf(impl.AcSwap, 2, 5), actOf(impl.AcSwap, 0, 0), actOf(impl.AcSwap, 0, 6), actOf(impl.AcSwap, 40, 1),
		actOf(impl.AcStore, 0, 1), actOf(impl.AcStore, 1, 1), actOf(impl.AcStore, 2, 50), actOf(impl.AcStore, 5, 1), actOf(impl.AcStore, 40, 50),
		actOf(impl.AcFetch, 0, 0), actOf(impl.AcFetch, 1, 0), actOf(impl.AcFetch, 4, 0), actOf(impl.AcFetch, 40, 0), actOf(impl.AcPanes, 0, 0),
	}
	studios := fineStudios()
	maps.Copy(studios, wrongStudios())
	for name, s := range studios {
		for _, a := range append(slices.Clone(acts), actsNotOk()...) {
			checkAct(t, name, s, a)
		}
	}
}

func TestPanesOfWindows(t *testing.T) {
	for name, w := range allWindows() {
		checkAct(t, name, studioOf(draftOf(w), 0), actOf(impl.AcPanes, 0, 0))
	}
}

func TestScenarioByHand(t *testing.T) {
	script := []struct {
		a    impl.Act
		want int
	}{
		{actOf(impl.AcPanes, 0, 0), 4}, {actOf(impl.AcUndo, 0, 0), 0}, {actOf(impl.AcSwap, 0, 1), 0}, {actOf(impl.AcFetch, 4, 0), 0},
		{actOf(impl.AcColor, 2, 0), 0}, {actOf(impl.AcColor, 3, 0), 1}, {actOf(impl.AcSwap, 0, 1), 1},
		{actOf(impl.AcStore, 1, 2), 0}, {actOf(impl.AcStore, 0, 2), 1}, {actOf(impl.AcStore, 0, 2), 0}, {actOf(impl.AcStore, 3, 2), 1}, {actOf(impl.AcStore, 4, 1), 1},
		{actOf(impl.AcDrop, 7, 0), 0}, {actOf(impl.AcAdd, 1, 3), 0}, {actOf(impl.AcUndo, 0, 0), 0}, {actOf(impl.AcFetch, 3, 0), 0}, {actOf(impl.AcFetch, 1, 0), 1},
		{actOf(impl.AcSwap, 0, 5), 1}, {actOf(0, 0, 0), -1}, {actOf(impl.AcStore, 2, 51), -1},
	}
	acts, want := []impl.Act{}, []int{}
	for _, line := range script {
		acts, want = append(acts, line.a), append(want, line.want)
	}
	s, numbers := impl.RunActs(impl.SampleStudio(), acts)
	lines := []string{"0,0 8,0 8,8 0,8 4,4 | 0-1 1-2 2-3 0-3 0-4 1-4 2-4 3-4", "colors 5 0 2 1 2", "stored 2 4", "steps 0", "fund 200"}
	if got := impl.FormatStudio(s); !slices.Equal(numbers, want) || !slices.Equal(got, lines) {
		t.Errorf("RunActs makes %v and %q; want %v and %q", numbers, got, want, lines)
	}
	changes := []impl.Act{
		actOf(impl.AcFetch, 2, 0), actOf(impl.AcFetch, 4, 0), actOf(impl.AcDrop, 8, 0), actOf(impl.AcDrop, 4, 0), actOf(impl.AcDrop, 5, 0),
		actOf(impl.AcJoin, 4, 0), actOf(impl.AcJoin, 4, 0), actOf(impl.AcAdd, 2, 0), actOf(impl.AcAdd, 1, 3), actOf(impl.AcPanes, 0, 0), actOf(impl.AcUndo, 0, 0),
	}
	s, numbers = impl.RunActs(s, changes)
	want = []int{1, 1, 0, 1, 1, 1, 0, 0, 0, 2, 1}
	lines = []string{"0,0 8,0 8,8 0,8 4,4 | 0-1 1-2 2-3 0-3 1-4 3-4", "colors", "stored", "steps 2", "fund 170"}
	if got := impl.FormatStudio(s); !slices.Equal(numbers, want) || !slices.Equal(got, lines) {
		t.Errorf("RunActs makes %v and %q; want %v and %q", numbers, got, want, lines)
	}
}

func TestFormatStudio(t *testing.T) {
	for name, s := range fineStudios() {
		if got, want := impl.FormatStudio(s), formatByHand(s); !slices.Equal(got, want) {
			t.Errorf("%s: FormatStudio = %q; want %q", name, got, want)
		}
	}
	for name, s := range wrongStudios() {
		if got := impl.FormatStudio(s); len(got) != 0 {
			t.Errorf("%s: FormatStudio = %q; want nil", name, got)
		}
	}
	cases := map[string][]string{
		"one node":        {"20,20 |", "colors", "stored", "steps 0", "fund 200"},
		"all stored":      {"0,0 8,0 8,8 0,8 4,4 | 0-1 1-2 2-3 0-3 0-4 1-4 2-4 3-4", "colors", "stored 3 2 1 4", "steps 0", "fund 200"},
		"other colors":    {"0,0 8,0 8,8 0,8 4,4 | 0-1 1-2 2-3 0-3 0-4 1-4 2-4 3-4", "colors 5 4 3 2 1", "stored", "steps 0", "fund 200"},
		"39 steps":        {"0,0 8,0 8,8 0,8 4,4 | 0-1 1-2 2-3 0-3 0-4 1-4 2-4", "colors", "stored", "steps 39", "fund 200"},
		"the fund 0":      {"0,0 8,0 8,8 0,8 4,4 | 0-1 1-2 2-3 0-3 0-4 1-4 2-4 3-4", "colors", "stored", "steps 0", "fund 0"},
		"two steps":       {"0,0 8,0 8,8 0,8 4,4 | 0-1 1-2 2-3 0-3 0-4 1-4 2-4 3-4", "colors", "stored", "steps 2", "fund 200"},
		"apart, cross":    {"10,10 20,10 10,20 0,10 10,0 20,20 | 0-3 0-1 0-4 0-2", "colors", "stored", "steps 0", "fund 50"},
		"a tree, colored": {"0,0 3,5 9,1 9,8 | 1-2 0-1 2-3", "colors 3", "stored", "steps 0", "fund 200"},
	}
	for name, want := range cases {
		if got := impl.FormatStudio(fineStudios()[name]); !slices.Equal(got, want) {
			t.Errorf("%s: FormatStudio = %q; want %q", name, got, want)
		}
	}
}

func TestNumbersOfActs(t *testing.T) {
	panes := actOf(impl.AcPanes, 0, 0)
	for _, count := range []int{0, 1, 39, 40} {
		got, numbers := impl.RunActs(impl.SampleStudio(), slices.Repeat([]impl.Act{panes}, count))
		want := slices.Repeat([]int{4}, count)
		if !slices.Equal(numbers, want) || !sameStudio(got, impl.SampleStudio()) {
			t.Errorf("RunActs of %d acts = %v, %v", count, got, numbers)
		}
		if !impl.IsReplay(impl.SampleStudio(), slices.Repeat([]impl.Act{panes}, count), want) {
			t.Errorf("IsReplay of %d acts = false", count)
		}
	}
	for _, count := range []int{41, 42, 500} {
		for _, a := range []impl.Act{panes, actOf(impl.AcColor, 3, 0), {}} {
			acts := slices.Repeat([]impl.Act{a}, count)
			if got, numbers := impl.RunActs(impl.SampleStudio(), acts); len(numbers) != 0 || !sameStudio(got, impl.SampleStudio()) {
				t.Errorf("RunActs of %d acts = %v, %v", count, got, numbers)
			}
			for _, numbers := range [][]int{nil, slices.Repeat([]int{4}, count), slices.Repeat([]int{-1}, count)} {
				if impl.IsReplay(impl.SampleStudio(), acts, numbers) {
					t.Errorf("IsReplay of %d acts = true", count)
				}
			}
		}
	}
}

func TestScenariosOfStudiosThatAreNotValid(t *testing.T) {
	for name, s := range wrongStudios() {
		for _, acts := range [][]impl.Act{nil, {actOf(impl.AcPanes, 0, 0)}, {actOf(impl.AcUndo, 0, 0), actOf(impl.AcFetch, 1, 0)}, {{}}} {
			if got, numbers := impl.RunActs(s, acts); len(numbers) != 0 || !sameStudio(got, s) {
				t.Errorf("%s: RunActs = %v, %v; want the same studio and nil", name, got, numbers)
			}
			for _, numbers := range [][]int{nil, slices.Repeat([]int{-1}, len(acts)), slices.Repeat([]int{0}, len(acts))} {
				if impl.IsReplay(s, acts, numbers) {
					t.Errorf("%s: IsReplay = true", name)
				}
			}
		}
	}
}

// checkReplay needs the numbers of the acts.
func checkReplay(t *testing.T, name string, s impl.Studio, acts []impl.Act, numbers []int) {
	t.Helper()
	if !impl.IsReplay(s, acts, numbers) {
		t.Errorf("%s: IsReplay(%v, %v) = false", name, acts, numbers)
	}
	wrong := [][]int{append(slices.Clone(numbers), 0), append([]int{1}, numbers...), append(slices.Clone(numbers), -1)}
	for i, n := range numbers {
		wrong = append(wrong, changed(numbers, i, n+1), changed(numbers, i, n-1), numbers[:i])
	}
	for _, list := range wrong {
		if impl.IsReplay(s, acts, list) {
			t.Errorf("%s: IsReplay(%v, %v) = true", name, acts, list)
		}
	}
}

// checkHistory is promise 39 for one studio.
func checkHistory(t *testing.T, name string, s impl.Studio, plan impl.Window) {
	t.Helper()
	if !impl.StudioOk(s) || !isStudioFine(s) {
		t.Errorf("%s: the studio %v is not valid", name, s)
	}
	if len(s.Colors) > 0 && !isProperByHand(s.Draft.Now, s.Colors) {
		t.Errorf("%s: the colors %v are not proper", name, s.Colors)
	}
	home := []impl.Act{}
	for _, d := range s.Deposits {
		if f := impl.FaceWithNumber(s.Draft.Now, d.Place); !impl.IsPane(s.Draft.Now, f) {
			t.Errorf("%s: the stored pane %d has no place", name, d.Place)
		}
		home = append(home, actOf(impl.AcFetch, d.Place, 0))
	}
	for range s.Draft.Steps {
		home = append(home, actOf(impl.AcUndo, 0, 0))
	}
	for _, a := range home {
		after, number := impl.DoAct(s, a)
		if number != 1 {
			t.Errorf("%s: %v is not led back by %v", name, s, a)
		}
		s = after
	}
	if !sameDraft(s.Draft, draftOf(plan)) || len(s.Deposits) > 0 {
		t.Errorf("%s: the window is led back to %v", name, s)
	}
}

func TestEveryHistoryLeadsBackToThePlan(t *testing.T) {
	source := rand.New(rand.NewSource(39))
	times := map[impl.Act]int{}
	for name, w := range byName(someWholeWindows(391, 30)) {
		plan, _ := impl.OpenStudio(w, 10*source.Intn(25))
		now, acts, numbers := plan, []impl.Act{}, []int{}
		for range 40 {
			a := randomAct(source, now)
			want, number := actByHand(now, a)
			checkAct(t, name, now, a)
			now, acts, numbers = want, append(acts, a), append(numbers, number)
			times[actOf(a.Kind, 0, min(number, 1))]++
			checkHistory(t, name, now, w)
		}
		got, list := impl.RunActs(plan, acts)
		if !sameStudio(got, now) || !slices.Equal(list, numbers) {
			t.Errorf("%s: RunActs(%v) = %v, %v; want %v, %v", name, acts, got, list, now, numbers)
		}
		if lines := impl.FormatStudio(got); !slices.Equal(lines, formatByHand(now)) {
			t.Errorf("%s: FormatStudio = %q; want %q", name, lines, formatByHand(now))
		}
		i := source.Intn(len(acts))
		if !impl.IsReplay(plan, acts, numbers) || impl.IsReplay(plan, acts, changed(numbers, i, numbers[i]+1)) {
			t.Errorf("%s: IsReplay(%v) does not tell %v from other numbers", name, acts, numbers)
		}
	}
	for kind := impl.AcAdd; kind < impl.AcPanes; kind++ {
		if kind != impl.AcJoin && (times[actOf(kind, 0, 0)] == 0 || times[actOf(kind, 0, 1)] < 10) {
			t.Errorf("acts of the kind %d failed %d times, and did not %d times", kind, times[actOf(kind, 0, 0)], times[actOf(kind, 0, 1)])
		}
	}
}

func TestActsGoOnAfterOneThatIsNotValid(t *testing.T) {
	s := studioOf(draftOf(straightSquare()), 100)
	acts := []impl.Act{{}, actOf(impl.AcDrop, 8, 0), actOf(impl.AcDrop, 8, 1), actOf(impl.AcJoin, 1, 0), actOf(10, 0, 0), actOf(impl.AcJoin, 40, 0), actOf(impl.AcJoin, 41, 0), actOf(impl.AcColor, 2, 0)}
	want, numbers := runByHand(s, acts)
	got, list := impl.RunActs(s, acts)
	if !slices.Equal(list, []int{-1, 1, -1, 1, -1, 0, -1, 1}) || !slices.Equal(list, numbers) || !sameStudio(got, want) {
		t.Errorf("RunActs = %v, %v; want %v, %v", got, list, want, numbers)
	}
	checkReplay(t, "a straight square", s, acts, numbers)
}

func TestActsLeaveArgumentsAsTheyAre(t *testing.T) {
	studios := wrongStudios()
	maps.Copy(studios, fineStudios())
	list := []impl.Act{actOf(impl.AcDrop, 0, 0), actOf(impl.AcColor, 4, 0), actOf(impl.AcSwap, 0, 5), actOf(impl.AcStore, 2, 1), actOf(impl.AcFetch, 4, 0), actOf(impl.AcPanes, 0, 0), {}}
	for name, s := range studios {
		roomy, isUntouched := roomyStudio(s)
		acts, areActsUntouched := roomyOf(list, actOf(impl.AcUndo, 0, 0), actOf(impl.AcDrop, 1, 0))
		for _, a := range append(slices.Clone(list), actOf(impl.AcUndo, 0, 0)) {
			checkFreshStudio(t, name+", DoAct", func() impl.Studio {
				after, _ := impl.DoAct(roomy, a)
				return after
			})
		}
		checkFreshStudio(t, name+", RunActs", func() impl.Studio {
			after, _ := impl.RunActs(roomy, acts)
			return after
		})
		checkFreshStudio(t, name+", RunActs of no acts", func() impl.Studio {
			after, _ := impl.RunActs(roomy, nil)
			return after
		})
		checkFresh(t, name+", numbers", func() [][]int {
			_, numbers := impl.RunActs(roomy, acts)
			return [][]int{numbers}
		})
		checkFreshOf(t, name+", FormatStudio", "x", func() []string { return impl.FormatStudio(roomy) })
		numbers, areNumbersUntouched := roomyList([]int{1, 0, 1})
		impl.IsReplay(roomy, acts, numbers)
		if !isUntouched() || !sameStudio(roomy, s) || !areActsUntouched() || !areNumbersUntouched() {
			t.Errorf("%s: an argument is modified, or a result shares its memory", name)
		}
	}
}
