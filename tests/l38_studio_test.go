package tests

import (
	"maps"
	"math/rand"
	"slices"
	"testing"

	"loop.example/g03303/impl"
)

// fundsNotOk are just past each limit, and the extreme ints.
var fundsNotOk = []int{-1, 1000001, leastInt, greatestInt}

func isWholeByHand(w impl.Window) bool {
	return isPlane(w) && len(w.Leads) > 0 && !slices.Contains(reachedFrom(w, 0), false)
}

func isProperByHand(w impl.Window, colors []int) bool {
	if !isWholeByHand(w) || len(colors) != len(facesByAngle(w)) {
		return false
	}
	for f, beside := range besideLists(w) {
		if colors[f] < 0 || colors[f] > 5 || hasColorBeside(beside, colors, colors[f]) {
			return false
		}
	}
	return true
}

func isStudioFine(s impl.Studio) bool {
	now := s.Draft.Now
	if !isDraftFine(s.Draft) || len(s.Colors) > 0 && !isProperByHand(now, s.Colors) || !areDepositsFine(s.Deposits) {
		return false
	}
	if s.Fund < 0 || s.Fund > 1000000 || len(s.Deposits) > 0 && !isWholeByHand(now) {
		return false
	}
	return !slices.ContainsFunc(s.Deposits, func(d impl.Deposit) bool { return d.Place > len(facesWithin(now)) })
}

func sameStudio(s impl.Studio, u impl.Studio) bool {
	return sameDraft(s.Draft, u.Draft) && slices.Equal(s.Colors, u.Colors) && slices.Equal(s.Deposits, u.Deposits) && s.Fund == u.Fund
}

func cloneOfStudio(s impl.Studio) impl.Studio {
	return impl.Studio{Draft: cloneOfDraft(s.Draft), Colors: slices.Clone(s.Colors), Deposits: slices.Clone(s.Deposits), Fund: s.Fund}
}

// studioOf has no colors and no deposits.
func studioOf(d impl.Draft, fund int) impl.Studio {
	return impl.Studio{Draft: cloneOfDraft(d), Fund: fund}
}

// editedStudio returns a changed copy.
func editedStudio(s impl.Studio, edit func(s *impl.Studio)) impl.Studio {
	s = cloneOfStudio(s)
	edit(&s)
	return s
}

// The following functions do by hand what those of chapter 38 do. They return
// the same studio and false if it cannot be done.

func changeByHand(s impl.Studio, kind int, a int, b int) (impl.Studio, bool) {
	after, ok := stepByHand(s.Draft.Now, kind, a, b)
	if !ok || !isStudioFine(s) || len(s.Deposits) > 0 || len(s.Draft.Steps) >= 40 || s.Fund < 10 {
		return s, false
	}
	return editedStudio(s, func(s *impl.Studio) {
		s.Draft.Steps = append(s.Draft.Steps, impl.Step{Kind: kind, A: a, B: b, Before: s.Draft.Now})
		s.Draft.Now, s.Colors, s.Fund = cloneOf(after), nil, s.Fund-10
	}), true
}

func undoByHand(s impl.Studio) (impl.Studio, bool) {
	last := len(s.Draft.Steps) - 1
	if !isStudioFine(s) || len(s.Deposits) > 0 || last < 0 {
		return s, false
	}
	return editedStudio(s, func(s *impl.Studio) {
		s.Draft.Now, s.Colors = s.Draft.Steps[last].Before, nil
		s.Draft.Steps = s.Draft.Steps[:last]
	}), true
}

func colorByHand(s impl.Studio, n int) (impl.Studio, bool) {
	if !isStudioFine(s) || !isWholeByHand(s.Draft.Now) || n < 1 || n > 6 {
		return s, false
	}
	beside := besideLists(s.Draft.Now)
	colors, ok := firstOf(properLists(beside, noWishes(len(beside)), n))
	if !ok {
		return s, false
	}
	return editedStudio(s, func(s *impl.Studio) { s.Colors = colors }), true
}

func swapColorsByHand(s impl.Studio, f int, x int) (impl.Studio, bool) {
	if !isStudioFine(s) || f < 0 || f >= len(s.Colors) || x < 0 || x > 5 || s.Colors[f] == x {
		return s, false
	}
	colors := swapByHand(besideLists(s.Draft.Now), s.Colors, f, x)
	return editedStudio(s, func(s *impl.Studio) { s.Colors = colors }), true
}

func storeByHand(s impl.Studio, f int, crate int) (impl.Studio, bool) {
	now := s.Draft.Now
	if !isStudioFine(s) || !isWholeByHand(now) || f < 0 || f >= len(facesByAngle(now)) || f == wallAround(now) || !isOnePiece(now, f) {
		return s, false
	}
	day := 0
	if len(s.Deposits) > 0 {
		day = s.Deposits[len(s.Deposits)-1].Day + 1
	}
	place := 1 + slices.Index(readByHand(now), f)
	stored := editedStudio(s, func(s *impl.Studio) { s.Deposits = append(s.Deposits, depositOf(place, crate, day)) })
	if !areDepositsFine(stored.Deposits) {
		return s, false
	}
	return stored, true
}

func fetchByHand(s impl.Studio, place int) (impl.Studio, bool) {
	isPlace := func(d impl.Deposit) bool { return d.Place == place }
	if !isStudioFine(s) || !slices.ContainsFunc(s.Deposits, isPlace) {
		return s, false
	}
	return editedStudio(s, func(s *impl.Studio) { s.Deposits = slices.DeleteFunc(s.Deposits, isPlace) }), true
}

// fineStudios are valid.
func fineStudios() map[string]impl.Studio {
	studios := map[string]impl.Studio{}
	for name, d := range fineDrafts() {
		studios[name] = studioOf(d, 200)
	}
	for name, w := range apartWindows() {
		studios["apart, "+name] = studioOf(draftOf(w), 50)
	}
	sample := studios["sample"]
	for _, fund := range []int{0, 9, 10, 15, 1000000} {
		studios["the fund "+impl.FormatInt(fund)] = editedStudio(sample, func(s *impl.Studio) { s.Fund = fund })
	}
	edits := map[string]func(s *impl.Studio){
		"colored":      func(s *impl.Studio) { s.Colors = []int{0, 1, 2, 0, 2} },
		"other colors": func(s *impl.Studio) { s.Colors = []int{5, 4, 3, 2, 1} },
		"stored":       func(s *impl.Studio) { s.Deposits = []impl.Deposit{depositOf(4, 2, 0)} },
		"all stored": func(s *impl.Studio) {
			s.Deposits = []impl.Deposit{depositOf(4, 2, 0), depositOf(1, 2, 0), depositOf(2, 1, 3), depositOf(3, 1, 4)}
		},
		"stored at the end":  func(s *impl.Studio) { s.Deposits = []impl.Deposit{depositOf(2, 50, 9999)} },
		"stored in the past": func(s *impl.Studio) { s.Deposits = []impl.Deposit{depositOf(2, 50, 9998)} },
		"colored and stored": func(s *impl.Studio) {
			s.Colors, s.Deposits = []int{0, 1, 2, 0, 2}, []impl.Deposit{depositOf(1, 7, 3), depositOf(4, 2, 5)}
		},
	}
	for name, edit := range edits {
		studios[name] = editedStudio(sample, edit)
		studios[name+" after two steps"] = editedStudio(studios["two steps"], edit)
	}
	studios["a tree, colored"] = editedStudio(studioOf(draftOf(wholeWindows()["path"]), 200), func(s *impl.Studio) { s.Colors = []int{3} })
	return studios
}

// wrongStudios differ from a valid one in one place.
func wrongStudios() map[string]impl.Studio {
	studios := map[string]impl.Studio{"zero": {}}
	for name, d := range wrongDrafts() {
		studios["draft: "+name] = studioOf(d, 200)
	}
	sample := fineStudios()["colored and stored"]
	change := func(name string, edit func(s *impl.Studio)) { studios[name] = editedStudio(sample, edit) }
	for _, fund := range fundsNotOk {
		change("the fund "+impl.FormatInt(fund), func(s *impl.Studio) { s.Fund = fund })
	}
	for i, list := range append(wrongColorLists(5)[1:], []int{0, 0, 2, 0, 2}, []int{0, 1, 2, 0, 0}, []int{0, 1, 0, 3, 2}) {
		change("colors that are not proper, "+impl.FormatInt(i), func(s *impl.Studio) { s.Colors = list })
	}
	for i, list := range [][]int{{0}, {5}, {0, 1}} {
		change("too few colors, "+impl.FormatInt(i), func(s *impl.Studio) { s.Colors = list })
	}
	for _, color := range []int{-1, 6, leastInt, greatestInt} {
		name := "a tree with the color " + impl.FormatInt(color)
		studios[name] = impl.Studio{Draft: draftOf(wholeWindows()["path"]), Colors: []int{color}}
	}
	for name, list := range wrongDeposits() {
		change("deposits: "+name, func(s *impl.Studio) { s.Deposits = list })
	}
	change("a place too great", func(s *impl.Studio) { s.Deposits = append(s.Deposits, depositOf(5, 1, 9)) })
	change("a place too great, first", func(s *impl.Studio) { s.Deposits[0].Place = 200 })
	for name, w := range apartWindows() {
		studios["stored out of a window that is not whole, "+name] = impl.Studio{Draft: draftOf(w), Deposits: []impl.Deposit{depositOf(1, 1, 0)}}
		studios["a window that is not whole is colored, "+name] = impl.Studio{Draft: draftOf(w), Colors: []int{0, 1}}
		studios["a window that is not whole has one color, "+name] = impl.Studio{Draft: draftOf(w), Colors: []int{0}}
	}
	for _, name := range []string{"path", "one lead", "sun"} {
		studios["stored out of a tree, "+name] = impl.Studio{Draft: draftOf(wholeWindows()[name]), Deposits: []impl.Deposit{depositOf(1, 1, 0)}}
	}
	return studios
}

func TestStudioOk(t *testing.T) {
	for name, s := range fineStudios() {
		if !impl.StudioOk(s) || !isStudioFine(s) {
			t.Errorf("%s: StudioOk = false", name)
		}
	}
	for name, s := range wrongStudios() {
		if impl.StudioOk(s) || isStudioFine(s) {
			t.Errorf("%s: StudioOk = true", name)
		}
	}
}

func TestOpenStudio(t *testing.T) {
	for name, w := range allWindows() {
		for _, fund := range []int{0, 15, 1000000} {
			if got, ok := impl.OpenStudio(w, fund); !ok || !sameStudio(got, studioOf(draftOf(w), fund)) {
				t.Errorf("%s: OpenStudio(%d) = %v, %v", name, fund, got, ok)
			}
		}
		for _, fund := range fundsNotOk {
			if got, ok := impl.OpenStudio(w, fund); ok || !sameStudio(got, impl.Studio{}) {
				t.Errorf("%s: OpenStudio(%d) = %v, %v", name, fund, got, ok)
			}
		}
	}
	for name, w := range invalidWindows() {
		if got, ok := impl.OpenStudio(w, 200); ok || !sameStudio(got, impl.Studio{}) {
			t.Errorf("%s: OpenStudio = %v, %v", name, got, ok)
		}
	}
}

// expect compares the result of a change with what it is by hand.
func expect(t *testing.T, name string, want impl.Studio, may bool) func(got impl.Studio, ok bool) {
	t.Helper()
	return func(got impl.Studio, ok bool) {
		t.Helper()
		if ok != may || !sameStudio(got, want) {
			t.Errorf("%s: %v, %v; want %v, %v", name, got, ok, want, may)
		}
		if ok && !impl.StudioOk(got) {
			t.Errorf("%s: the studio is not valid", name)
		}
	}
}

// checkStudio compares all that chapter 38 does with one studio, valid or not.
func checkStudio(t *testing.T, name string, s impl.Studio) {
	t.Helper()
	check := func(call string, want impl.Studio, may bool) func(impl.Studio, bool) {
		return expect(t, name+", "+call, want, may)
	}
	for _, step := range [][3]int{{impl.StDrop, 7, 0}, {impl.StDrop, 0, 5}, {impl.StAdd, 4, 3}, {impl.StAdd, 0, 1}, {impl.StJoin, 1, 0}, {impl.StJoin, 4, 0}, {0, 0, 0}, {4, 0, 0}, {impl.StAdd, -1, 99}, {impl.StDrop, leastInt, 0}} {
		want, may := changeByHand(s, step[0], step[1], step[2])
		check("ChangeWindow", want, may)(impl.ChangeWindow(s, step[0], step[1], step[2]))
	}
	want, may := undoByHand(s)
	check("UndoChange", want, may)(impl.UndoChange(s))
	for _, n := range []int{-1, 0, 1, 2, 3, 4, 5, 6, 7, leastInt, greatestInt} {
		want, may := colorByHand(s, n)
		check("ColorAll", want, may)(impl.ColorAll(s, n))
	}
	for _, f := range []int{-1, 0, 1, 2, 3, 4, 5, leastInt, greatestInt} {
		for _, x := range []int{-1, 0, 1, 2, 5, 6} {
			want, may := swapColorsByHand(s, f, x)
			check("SwapColors", want, may)(impl.SwapColors(s, f, x))
		}
		for _, crate := range []int{-1, 0, 1, 2, 50, 51} {
			want, may := storeByHand(s, f, crate)
			check("StorePane", want, may)(impl.StorePane(s, f, crate))
		}
		want, may := fetchByHand(s, f)
		check("FetchPane", want, may)(impl.FetchPane(s, f))
	}
	isComplete := isStudioFine(s) && isWholeByHand(s.Draft.Now) && len(s.Colors) > 0 && len(s.Deposits) == 0
	if got := impl.IsComplete(s); got != isComplete {
		t.Errorf("%s: IsComplete = %v", name, got)
	}
}

func TestStudios(t *testing.T) {
	studios := fineStudios()
	maps.Copy(studios, wrongStudios())
	for name, s := range studios {
		checkStudio(t, name, s)
	}
}

func TestStudiosByHand(t *testing.T) {
	fine := fineStudios()
	poor, ok := impl.ChangeWindow(fine["the fund 15"], impl.StDrop, 7, 0)
	if !ok || poor.Fund != 5 || len(poor.Draft.Now.Leads) != 7 || len(poor.Draft.Steps) != 1 {
		t.Errorf("the first change makes %v, %v", poor, ok)
	}
	if again, ok := impl.ChangeWindow(poor, impl.StAdd, 3, 4); ok || !sameStudio(again, poor) {
		t.Errorf("a change that cannot be paid makes %v, %v", again, ok)
	}
	if back, ok := impl.UndoChange(poor); !ok || back.Fund != 5 || !sameDraft(back.Draft, fine["sample"].Draft) {
		t.Errorf("UndoChange = %v, %v", back, ok)
	}
	last, ok := impl.ChangeWindow(fine["the fund 10"], impl.StDrop, 7, 0)
	if !ok || last.Fund != 0 || !impl.StudioOk(last) {
		t.Errorf("a change with the fund 10 makes %v, %v", last, ok)
	}
	for _, name := range []string{"the fund 0", "the fund 9", "stored", "all stored", "colored and stored", "40 steps"} {
		if got, ok := impl.ChangeWindow(fine[name], impl.StDrop, 0, 0); ok || !sameStudio(got, fine[name]) {
			t.Errorf("%s: ChangeWindow = %v, %v", name, got, ok)
		}
	}
	if free, ok := impl.ColorAll(fine["the fund 0"], 3); !ok || !slices.Equal(free.Colors, []int{0, 1, 2, 0, 2}) || free.Fund != 0 {
		t.Errorf("ColorAll with an empty fund = %v, %v", free, ok)
	}
	if gray, ok := impl.ChangeWindow(fine["colored"], impl.StDrop, 7, 0); !ok || len(gray.Colors) != 0 {
		t.Errorf("a change of a colored window makes %v, %v", gray, ok)
	}
	if gray, ok := impl.UndoChange(fine["colored after two steps"]); !ok || len(gray.Colors) != 0 || gray.Fund != 200 {
		t.Errorf("UndoChange of a colored window = %v, %v", gray, ok)
	}
	if got, ok := impl.UndoChange(fine["stored after two steps"]); ok || !sameStudio(got, fine["stored after two steps"]) {
		t.Errorf("UndoChange while a pane is stored = %v, %v", got, ok)
	}
	if swapped, ok := impl.SwapColors(fine["colored"], 0, 1); !ok || !slices.Equal(swapped.Colors, []int{1, 0, 2, 1, 2}) {
		t.Errorf("SwapColors = %v, %v", swapped, ok)
	}
	if stored, ok := impl.StorePane(fine["colored"], 0, 2); !ok || !slices.Equal(stored.Deposits, []impl.Deposit{depositOf(4, 2, 0)}) {
		t.Errorf("StorePane = %v, %v", stored, ok)
	}
	if stored, ok := impl.StorePane(fine["colored and stored"], 4, 1); !ok || stored.Deposits[2] != depositOf(2, 1, 6) {
		t.Errorf("the third StorePane = %v, %v", stored, ok)
	}
	if stored, ok := impl.StorePane(fine["stored in the past"], 0, 1); !ok || stored.Deposits[1].Day != 9999 {
		t.Errorf("StorePane on the last day = %v, %v", stored, ok)
	}
	if stored, ok := impl.StorePane(fine["stored at the end"], 0, 1); ok || !sameStudio(stored, fine["stored at the end"]) {
		t.Errorf("StorePane after the last day = %v, %v", stored, ok)
	}
}

func TestFacesThatCannotBeStored(t *testing.T) {
	for name, w := range byName(wholeWindows()) {
		s, _ := impl.OpenStudio(w, 0)
		places := []int{}
		for _, f := range append(wrongIndices(len(facesByAngle(w))), indicesOf(len(facesByAngle(w)))...) {
			want, may := storeByHand(s, f, 1)
			got, ok := impl.StorePane(s, f, 1)
			expect(t, name+", StorePane", want, may)(got, ok)
			if ok {
				places = append(places, got.Deposits[0].Place)
			}
		}
		if len(places) != len(impl.PanesOf(w)) || !impl.StudioOk(s) {
			t.Errorf("%s: panes are stored with the places %v", name, places)
		}
	}
}

func TestIsComplete(t *testing.T) {
	for name, want := range map[string]bool{
		"colored": true, "other colors": true, "colored after two steps": true, "a tree, colored": true,
		"sample": false, "two steps": false, "stored": false, "colored and stored": false, "apart, no leads": false,
	} {
		if got := impl.IsComplete(fineStudios()[name]); got != want {
			t.Errorf("%s: IsComplete = %v", name, got)
		}
	}
}

// randomChange does the same thing by hand and by the program.
func randomChange(source *rand.Rand, s impl.Studio) (want impl.Studio, may bool, got impl.Studio, ok bool) {
	faces := 1 + len(facesByAngle(s.Draft.Now))
	switch source.Intn(8) {
	case 0, 1:
		kind, a, b := randomStep(source, s.Draft.Now)
		want, may = changeByHand(s, kind, a, b)
		got, ok = impl.ChangeWindow(s, kind, a, b)
	case 2:
		want, may = undoByHand(s)
		got, ok = impl.UndoChange(s)
	case 3:
		n := 2 + source.Intn(5)
		want, may = colorByHand(s, n)
		got, ok = impl.ColorAll(s, n)
	case 4:
		f, x := source.Intn(faces), source.Intn(6)
		want, may = swapColorsByHand(s, f, x)
		got, ok = impl.SwapColors(s, f, x)
	case 5:
		f, crate := source.Intn(faces), source.Intn(4)
		want, may = storeByHand(s, f, crate)
		got, ok = impl.StorePane(s, f, crate)
	default:
		place := source.Intn(5)
		want, may = fetchByHand(s, place)
		got, ok = impl.FetchPane(s, place)
	}
	return want, may, got, ok
}

// checkShut tries a step while a pane is stored. It reports whether this would be
// a step if all panes were at home.
func checkShut(t *testing.T, name string, source *rand.Rand, s impl.Studio) bool {
	t.Helper()
	if len(s.Deposits) == 0 {
		return false
	}
	kind, a, b := randomStep(source, s.Draft.Now)
	if got, ok := impl.ChangeWindow(s, kind, a, b); ok || !sameStudio(got, s) {
		t.Errorf("%s: ChangeWindow(%v, %d, %d, %d) = %v, %v while a pane is stored", name, s, kind, a, b, got, ok)
	}
	if got, ok := impl.UndoChange(s); ok || !sameStudio(got, s) {
		t.Errorf("%s: UndoChange(%v) = %v, %v while a pane is stored", name, s, got, ok)
	}
	atHome := editedStudio(s, func(s *impl.Studio) { s.Deposits = nil })
	_, ok := impl.ChangeWindow(atHome, kind, a, b)
	return ok
}

func TestAWindowIsOnlyChangedWhileAllPanesAreAtHome(t *testing.T) {
	source := rand.New(rand.NewSource(38))
	done, refused := 0, 0
	for name, w := range byName(someWholeWindows(381, 20)) {
		s := studioOf(draftOf(w), 10*source.Intn(15))
		for range 40 {
			want, may, got, ok := randomChange(source, s)
			expect(t, name, want, may)(got, ok)
			if len(s.Deposits) > 0 && !sameDraft(s.Draft, got.Draft) {
				t.Errorf("%s: the window is changed while a pane is stored: %v", name, got)
			}
			for _, d := range got.Deposits {
				if d.Place < 1 || d.Place > len(facesWithin(got.Draft.Now)) {
					t.Errorf("%s: a stored pane has no place: %v", name, got)
				}
			}
			if ok {
				done++
			}
			s = want
			if checkShut(t, name, source, s) {
				refused++
			}
		}
	}
	if done < 300 || refused < 30 {
		t.Errorf("only %d changes were possible, and %d were refused because of a stored pane", done, refused)
	}
}

// checkFreshStudio overwrites one result and looks at another one.
func checkFreshStudio(t *testing.T, name string, call func() impl.Studio) {
	t.Helper()
	checkFreshDraft(t, name, func() impl.Draft { return call().Draft })
	checkFreshOf(t, name, -7, func() []int { return call().Colors })
	checkFreshOf(t, name, depositOf(-7, -7, -7), func() []impl.Deposit { return call().Deposits })
}

// roomyStudio keeps something behind each list of a studio, where no function
// may write.
func roomyStudio(s impl.Studio) (impl.Studio, func() bool) {
	draft, isDraftUntouched := roomyDraft(s.Draft)
	colors, areColorsUntouched := roomyList(s.Colors)
	deposits, areDepositsUntouched := roomyOf(s.Deposits, depositOf(1, 1, 9000), depositOf(2, 2, 9001))
	roomy := impl.Studio{Draft: draft, Colors: colors, Deposits: deposits, Fund: s.Fund}
	return roomy, func() bool { return isDraftUntouched() && areColorsUntouched() && areDepositsUntouched() }
}

func TestStudiosLeaveArgumentsAsTheyAre(t *testing.T) {
	studios := wrongStudios()
	maps.Copy(studios, fineStudios())
	for name, s := range studios {
		roomy, isUntouched := roomyStudio(s)
		first := func(s impl.Studio, _ bool) impl.Studio { return s }
		checkFreshStudio(t, name+", OpenStudio", func() impl.Studio { return first(impl.OpenStudio(roomy.Draft.Now, 10)) })
		checkFreshStudio(t, name+", ChangeWindow", func() impl.Studio { return first(impl.ChangeWindow(roomy, impl.StDrop, 0, 0)) })
		checkFreshStudio(t, name+", a change that fails", func() impl.Studio { return first(impl.ChangeWindow(roomy, 4, 0, 0)) })
		checkFreshStudio(t, name+", UndoChange", func() impl.Studio { return first(impl.UndoChange(roomy)) })
		checkFreshStudio(t, name+", ColorAll", func() impl.Studio { return first(impl.ColorAll(roomy, 4)) })
		checkFreshStudio(t, name+", SwapColors", func() impl.Studio { return first(impl.SwapColors(roomy, 0, 5)) })
		checkFreshStudio(t, name+", StorePane", func() impl.Studio { return first(impl.StorePane(roomy, 2, 1)) })
		checkFreshStudio(t, name+", FetchPane", func() impl.Studio { return first(impl.FetchPane(roomy, 4)) })
		impl.StudioOk(roomy)
		impl.IsComplete(roomy)
		if !isUntouched() || !sameStudio(roomy, s) {
			t.Errorf("%s: the studio is modified, or a result shares its memory", name)
		}
	}
}
