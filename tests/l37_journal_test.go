package tests

import (
	"math/rand"
	"slices"
	"testing"

	"loop.example/g03303/impl"
)

// kindsNotOk are no kinds of steps.
var kindsNotOk = []int{0, 4, -1, leastInt, greatestInt}

// stepByHand returns false if the step is not allowed.
func stepByHand(w impl.Window, kind int, a int, b int) (impl.Window, bool) {
	if !isPlane(w) {
		return w, false
	}
	switch {
	case kind == impl.StAdd && isPlane(withLead(w, a, b)):
		return withLead(w, a, b), true
	case kind == impl.StDrop && 0 <= a && a < len(w.Leads):
		return cloneOf(withoutLead(w, a)), true
	case kind == impl.StJoin && 0 <= a && a < len(w.Nodes) && isInOneLine(w, a):
		return joinedByHand(w, a), true
	}
	return w, false
}

func isDraftFine(d impl.Draft) bool {
	if !isPlane(d.First) || len(d.Steps) > 40 {
		return false
	}
	now := d.First
	for _, s := range d.Steps {
		after, ok := stepByHand(now, s.Kind, s.A, s.B)
		if !ok || !sameWindow(s.Before, now) {
			return false
		}
		now = after
	}
	return sameWindow(d.Now, now)
}

func sameStep(s impl.Step, u impl.Step) bool {
	return s.Kind == u.Kind && s.A == u.A && s.B == u.B && sameWindow(s.Before, u.Before)
}

func sameDraft(d impl.Draft, e impl.Draft) bool {
	return sameWindow(d.First, e.First) && sameWindow(d.Now, e.Now) && slices.EqualFunc(d.Steps, e.Steps, sameStep)
}

func cloneOfDraft(d impl.Draft) impl.Draft {
	clone := impl.Draft{First: cloneOf(d.First), Now: cloneOf(d.Now)}
	for _, s := range d.Steps {
		clone.Steps = append(clone.Steps, impl.Step{Kind: s.Kind, A: s.A, B: s.B, Before: cloneOf(s.Before)})
	}
	return clone
}

// draftOf has no steps.
func draftOf(w impl.Window) impl.Draft { return impl.Draft{First: cloneOf(w), Now: cloneOf(w)} }

// drafted takes steps, each given by its kind, A and B.
func drafted(w impl.Window, steps ...int) impl.Draft {
	d := draftOf(w)
	for i := 0; i < len(steps); i += 3 {
		after, ok := stepByHand(d.Now, steps[i], steps[i+1], steps[i+2])
		if !ok {
			panic("a step of a test is not allowed")
		}
		d.Steps = append(d.Steps, impl.Step{Kind: steps[i], A: steps[i+1], B: steps[i+2], Before: cloneOf(d.Now)})
		d.Now = cloneOf(after)
	}
	return d
}

// backAndForth takes off the last lead of the sample and adds it again, count
// times in all.
func backAndForth(count int) impl.Draft {
	steps := []int{}
	for i := range count {
		if i%2 == 0 {
			steps = append(steps, impl.StDrop, 7, 0)
		} else {
			steps = append(steps, impl.StAdd, 4, 3)
		}
	}
	return drafted(impl.SampleWindow(), steps...)
}

// randomStep is often allowed.
func randomStep(source *rand.Rand, w impl.Window) (int, int, int) {
	nodes, leads := len(w.Nodes), len(w.Leads)
	straight := straightByHand(w)
	switch source.Intn(6) {
	case 0:
		return impl.StDrop, source.Intn(leads + 1), source.Intn(3)
	case 1:
		if len(straight) > 0 {
			return impl.StJoin, straight[source.Intn(len(straight))], 0
		}
	case 2:
		return source.Intn(5), source.Intn(nodes + 1), source.Intn(nodes + 1)
	}
	return impl.StAdd, source.Intn(nodes), source.Intn(nodes)
}

// straightSquare is a square with straight nodes on its border, which can be
// joined.
func straightSquare() impl.Window {
	return drawn([]int{0, 0, 4, 0, 8, 0, 8, 4, 8, 8, 4, 8, 0, 8, 0, 4}, 0, 1, 1, 2, 2, 3, 3, 4, 4, 5, 5, 6, 6, 7, 0, 7, 1, 5)
}

// fineDrafts are valid.
func fineDrafts() map[string]impl.Draft {
	return map[string]impl.Draft{
		"sample":        draftOf(impl.SampleWindow()),
		"one node":      draftOf(drawn([]int{20, 20})),
		"one step":      drafted(impl.SampleWindow(), impl.StDrop, 7, 0),
		"two steps":     drafted(impl.SampleWindow(), impl.StDrop, 7, 0, impl.StAdd, 4, 3),
		"all kinds":     drafted(straightSquare(), impl.StDrop, 8, -5, impl.StJoin, 1, 99, impl.StJoin, 2, 0, impl.StAdd, 0, 3),
		"not whole":     drafted(drawn([]int{0, 0, 4, 0, 0, 4}), impl.StAdd, 1, 0, impl.StAdd, 1, 2, impl.StDrop, 0, 0),
		"40 steps":      backAndForth(40),
		"39 steps":      backAndForth(39),
		"full of leads": drafted(fullWindow(), impl.StDrop, 0, 0, impl.StAdd, 1, 0),
	}
}

// wrongDrafts differ from a valid one in one place.
func wrongDrafts() map[string]impl.Draft {
	drafts := map[string]impl.Draft{
		"zero":                       {},
		"Now is missing":             {First: impl.SampleWindow()},
		"First is missing":           {Now: impl.SampleWindow()},
		"Now is another window":      {First: impl.SampleWindow(), Now: fullWindow()},
		"41 steps":                   backAndForth(41),
		"First and Now are no plans": draftOf(invalidWindows()["leads that cross"]),
		"many steps":                 backAndForth(60),
	}
	change := func(name string, edit func(d *impl.Draft)) {
		d := cloneOfDraft(fineDrafts()["all kinds"])
		edit(&d)
		drafts[name] = d
	}
	change("Now is the window before", func(d *impl.Draft) { d.Now = cloneOf(d.Steps[3].Before) })
	change("Now is First", func(d *impl.Draft) { d.Now = cloneOf(d.First) })
	change("Now has its leads in another order", func(d *impl.Draft) { slices.Reverse(d.Now.Leads) })
	change("Now has another node", func(d *impl.Draft) { d.Now.Nodes[0].Y = 1 })
	change("First is another window", func(d *impl.Draft) { d.First = withoutLead(d.First, 0) })
	change("First is no plan", func(d *impl.Draft) { d.First.Nodes[7] = impl.Node{X: 21} })
	for i := range 4 {
		name := "step " + impl.FormatInt(i)
		change(name+" is missing", func(d *impl.Draft) { d.Steps = slices.Delete(d.Steps, i, i+1) })
		change(name+" is there twice", func(d *impl.Draft) { d.Steps = slices.Insert(d.Steps, i, d.Steps[i]) })
		change(name+" was before another window", func(d *impl.Draft) { d.Steps[i].Before = withoutLead(d.Steps[i].Before, 0) })
		change(name+" was before no window", func(d *impl.Draft) { d.Steps[i].Before = impl.Window{} })
		change(name+" has another A", func(d *impl.Draft) { d.Steps[i].A = 20 })
		for _, kind := range kindsNotOk {
			change(name+" has the kind "+impl.FormatInt(kind), func(d *impl.Draft) { d.Steps[i].Kind = kind })
		}
	}
	change("the added lead has another B", func(d *impl.Draft) { d.Steps[3].B = 1 })
	change("a step that fails at the end", func(d *impl.Draft) {
		d.Steps = append(d.Steps, impl.Step{Kind: impl.StAdd, A: 0, B: 0, Before: cloneOf(d.Now)})
	})
	change("a step of no kind at the end", func(d *impl.Draft) {
		d.Steps = append(d.Steps, impl.Step{Kind: 4, Before: cloneOf(d.Now)})
	})
	return drafts
}

func TestStepOn(t *testing.T) {
	windows := allWindows()
	for name, w := range invalidWindows() {
		windows[name] = w
	}
	windows["straight square"] = straightSquare()
	for name, w := range byName(windows) {
		for _, a := range append(wrongIndices(len(w.Leads)), indicesOf(20)...) {
			dropped, isDropped := impl.DropLead(w, a)
			if got, ok := impl.StepOn(w, impl.StDrop, a, 7); ok != isDropped || !sameWindow(got, dropped) {
				t.Errorf("%s: StepOn(StDrop, %d) = %v, %v", name, a, got, ok)
			}
			joined, isJoined := impl.JoinLeads(w, a)
			if got, ok := impl.StepOn(w, impl.StJoin, a, 7); ok != isJoined || !sameWindow(got, joined) {
				t.Errorf("%s: StepOn(StJoin, %d) = %v, %v", name, a, got, ok)
			}
			for _, b := range []int{-1, 0, 3, len(w.Nodes) - 1, len(w.Nodes)} {
				added, isAdded := impl.AddLead(w, a, b)
				if got, ok := impl.StepOn(w, impl.StAdd, a, b); ok != isAdded || !sameWindow(got, added) {
					t.Errorf("%s: StepOn(StAdd, %d, %d) = %v, %v", name, a, b, got, ok)
				}
			}
		}
		for _, kind := range kindsNotOk {
			for a := range 3 {
				if got, ok := impl.StepOn(w, kind, a, a+1); ok || !sameWindow(got, w) {
					t.Errorf("%s: StepOn of the kind %d = %v, %v", name, kind, got, ok)
				}
			}
		}
	}
	if impl.StAdd != 1 || impl.StDrop != 2 || impl.StJoin != 3 {
		t.Error("a kind differs from the document")
	}
}

func TestDraftOk(t *testing.T) {
	for name, d := range fineDrafts() {
		if !impl.DraftOk(d) || !isDraftFine(d) {
			t.Errorf("%s: DraftOk = false", name)
		}
	}
	for name, d := range wrongDrafts() {
		if impl.DraftOk(d) || isDraftFine(d) {
			t.Errorf("%s: DraftOk = true", name)
		}
	}
	for name, w := range allWindows() {
		if !impl.DraftOk(draftOf(w)) {
			t.Errorf("%s: DraftOk of the empty journal = false", name)
		}
	}
	for name, w := range invalidWindows() {
		if impl.DraftOk(draftOf(w)) {
			t.Errorf("%s: DraftOk of the empty journal = true", name)
		}
	}
}

func TestStepsByHand(t *testing.T) {
	sample := fineDrafts()["sample"]
	one, ok := impl.DoStep(sample, impl.StDrop, 7, 0)
	if !ok || !sameDraft(one, fineDrafts()["one step"]) {
		t.Errorf("the first step makes %v, %v", one, ok)
	}
	two, ok := impl.DoStep(one, impl.StAdd, 4, 3)
	if !ok || !sameDraft(two, fineDrafts()["two steps"]) || !sameWindow(two.Now, impl.SampleWindow()) {
		t.Errorf("the second step makes %v, %v", two, ok)
	}
	for name, step := range map[string][3]int{
		"a lead that is not there":    {impl.StDrop, 8, 0},
		"no lead":                     {impl.StDrop, -1, 0},
		"a lead that is there":        {impl.StAdd, 0, 1},
		"a lead to no node":           {impl.StAdd, 0, 5},
		"a lead to its own node":      {impl.StAdd, 2, 2},
		"a lead that crosses":         {impl.StAdd, 0, 2},
		"a node that is not straight": {impl.StJoin, 4, 0},
		"a node that is not there":    {impl.StJoin, 5, 0},
		"the kind 0":                  {0, 0, 0},
		"the kind 4":                  {4, 0, 0},
		"the greatest kind":           {greatestInt, 0, 0},
	} {
		if got, ok := impl.DoStep(two, step[0], step[1], step[2]); ok || !sameDraft(got, two) {
			t.Errorf("%s: DoStep = %v, %v; want the same draft", name, got, ok)
		}
	}
	last, ok := impl.DoStep(fineDrafts()["39 steps"], impl.StAdd, 4, 3)
	if !ok || !sameDraft(last, fineDrafts()["40 steps"]) {
		t.Errorf("the 40th step makes %d steps, %v", len(last.Steps), ok)
	}
	if more, ok := impl.DoStep(last, impl.StDrop, 7, 0); ok || !sameDraft(more, last) {
		t.Errorf("the 41st step makes %d steps, %v", len(more.Steps), ok)
	}
}

func TestEveryStepCanBeUndone(t *testing.T) {
	source := rand.New(rand.NewSource(37))
	windows := someWholeWindows(371, 20)
	windows["straight square"], windows["no leads"] = straightSquare(), drawn([]int{0, 0, 20, 0, 0, 20, 5, 5})
	kinds := map[int]int{}
	for name, w := range byName(windows) {
		d := draftOf(w)
		for range 60 {
			kind, a, b := randomStep(source, d.Now)
			after, may := stepByHand(d.Now, kind, a, b)
			next, ok := impl.DoStep(d, kind, a, b)
			want := cloneOfDraft(d)
			if may = may && len(d.Steps) < 40; may {
				want.Steps = append(want.Steps, impl.Step{Kind: kind, A: a, B: b, Before: cloneOf(d.Now)})
				want.Now = cloneOf(after)
				kinds[kind]++
			}
			if ok != may || !sameDraft(next, want) {
				t.Fatalf("%s: DoStep(%v, %d, %d, %d) = %v, %v; want %v, %v", name, d, kind, a, b, next, ok, want, may)
			}
			if !impl.DraftOk(next) {
				t.Fatalf("%s: DraftOk(%v) = false", name, next)
			}
			if back, undone := impl.UndoStep(next); may && (!undone || !sameDraft(back, d)) {
				t.Errorf("%s: UndoStep(%v) = %v, %v; want %v", name, next, back, undone, d)
			}
			d = want
		}
		if plan := impl.UndoAll(d); !sameDraft(plan, draftOf(w)) {
			t.Errorf("%s: UndoAll(%v) = %v", name, d, plan)
		}
	}
	if kinds[impl.StAdd] < 50 || kinds[impl.StDrop] < 50 || kinds[impl.StJoin] < 8 {
		t.Errorf("too few steps were allowed: %v", kinds)
	}
}

func TestAllStepsLeadBackToThePlan(t *testing.T) {
	for name, d := range fineDrafts() {
		if plan := impl.UndoAll(d); !sameDraft(plan, draftOf(d.First)) {
			t.Errorf("%s: UndoAll = %v", name, plan)
		}
		now := cloneOfDraft(d)
		for i := len(d.Steps) - 1; i >= 0; i-- {
			want := impl.Draft{First: d.First, Now: d.Steps[i].Before, Steps: d.Steps[:i]}
			back, ok := impl.UndoStep(now)
			if !ok || !sameDraft(back, want) {
				t.Fatalf("%s: UndoStep to step %d = %v, %v", name, i, back, ok)
			}
			now = back
		}
		if back, ok := impl.UndoStep(now); ok || !sameDraft(back, now) {
			t.Errorf("%s: UndoStep of the empty journal = %v, %v", name, back, ok)
		}
	}
}

func TestDraftsThatAreNotValid(t *testing.T) {
	for name, d := range wrongDrafts() {
		for kind := range 5 {
			if got, ok := impl.DoStep(d, kind, 0, 0); ok || !sameDraft(got, d) {
				t.Errorf("%s: DoStep(%d) = %v, %v; want the same draft", name, kind, got, ok)
			}
		}
		if got, ok := impl.DoStep(d, impl.StAdd, 0, 2); ok || !sameDraft(got, d) {
			t.Errorf("%s: DoStep = %v, %v; want the same draft", name, got, ok)
		}
		if got, ok := impl.UndoStep(d); ok || !sameDraft(got, d) {
			t.Errorf("%s: UndoStep = %v, %v; want the same draft", name, got, ok)
		}
		if got := impl.UndoAll(d); !sameDraft(got, d) {
			t.Errorf("%s: UndoAll = %v; want the same draft", name, got)
		}
	}
}

// windowsOf are all the windows of a draft.
func windowsOf(d impl.Draft) []impl.Window {
	windows := []impl.Window{d.First, d.Now}
	for _, s := range d.Steps {
		windows = append(windows, s.Before)
	}
	return windows
}

// roomyDraft keeps something behind each list of a draft, where no function may
// write.
func roomyDraft(d impl.Draft) (impl.Draft, func() bool) {
	roomy := impl.Draft{}
	untouched := []func() bool{}
	copied := func(w impl.Window) impl.Window {
		copy, isUntouched := roomyWindow(w)
		untouched = append(untouched, isUntouched)
		return copy
	}
	roomy.First, roomy.Now = copied(d.First), copied(d.Now)
	for _, s := range d.Steps {
		roomy.Steps = append(roomy.Steps, impl.Step{Kind: s.Kind, A: s.A, B: s.B, Before: copied(s.Before)})
	}
	behind := impl.Step{Kind: 17, A: 18, B: 19, Before: impl.SampleWindow()}
	longer := append(slices.Clone(roomy.Steps), behind)
	roomy.Steps = longer[:len(d.Steps)]
	return roomy, func() bool {
		isTouched := func(isUntouched func() bool) bool { return !isUntouched() }
		return !slices.ContainsFunc(untouched, isTouched) && sameStep(longer[len(d.Steps)], behind) && sameDraft(roomy, d)
	}
}

// checkFreshDraft overwrites the windows of one result, one after the other, and
// looks at those that are left and at another result.
func checkFreshDraft(t *testing.T, name string, call func() impl.Draft) {
	t.Helper()
	first, second := call(), call()
	kept := cloneOfDraft(first)
	if !sameDraft(second, kept) {
		t.Errorf("%s: a second call returns %v after %v", name, second, kept)
		return
	}
	windows := windowsOf(second)
	for i := range windows {
		scribble(windows[i])
		if !slices.EqualFunc(windows[i+1:], windowsOf(kept)[i+1:], sameWindow) {
			t.Errorf("%s: two windows of one result share memory", name)
		}
	}
	second.Steps = second.Steps[:cap(second.Steps)]
	for i := range second.Steps {
		scribble(second.Steps[i].Before)
		second.Steps[i] = impl.Step{Kind: -7, A: -7, B: -7}
	}
	if !sameDraft(first, kept) {
		t.Errorf("%s: two results share memory", name)
	}
}

func TestJournalsLeaveArgumentsAsTheyAre(t *testing.T) {
	drafts := fineDrafts()
	for name, d := range wrongDrafts() {
		drafts[name] = d
	}
	for name, d := range drafts {
		roomy, isUntouched := roomyDraft(d)
		for _, step := range [][3]int{{impl.StDrop, 0, 0}, {impl.StAdd, 0, 2}, {impl.StAdd, 0, 0}, {impl.StJoin, 1, 0}, {4, 0, 0}} {
			checkFreshDraft(t, name+", DoStep", func() impl.Draft {
				after, _ := impl.DoStep(roomy, step[0], step[1], step[2])
				return after
			})
			checkFreshWindow(t, name+", StepOn", func() impl.Window {
				after, _ := impl.StepOn(roomy.Now, step[0], step[1], step[2])
				return after
			})
		}
		checkFreshDraft(t, name+", UndoStep", func() impl.Draft {
			before, _ := impl.UndoStep(roomy)
			return before
		})
		checkFreshDraft(t, name+", UndoAll", func() impl.Draft { return impl.UndoAll(roomy) })
		impl.DraftOk(roomy)
		if !isUntouched() {
			t.Errorf("%s: the draft is modified, or a result shares its memory", name)
		}
	}
}
