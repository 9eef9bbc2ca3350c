package tests

import (
	"math/rand"
	"slices"
	"testing"

	"loop.example/g03303/impl"
)

// fullWindow has MaxNodes nodes and MaxLeads leads: a net of four by three
// nodes with three of its six cells divided.
func fullWindow() impl.Window {
	w := impl.Window{}
	for k := range 12 {
		w.Nodes = append(w.Nodes, impl.Node{X: 5 * (k % 4), Y: 10 * (k / 4)})
		if k%4 > 0 {
			w.Leads = append(w.Leads, impl.Lead{From: k - 1, To: k})
		}
		if k >= 4 {
			w.Leads = append(w.Leads, impl.Lead{From: k - 4, To: k})
		}
	}
	w.Leads = append(w.Leads, impl.Lead{From: 0, To: 5}, impl.Lead{From: 1, To: 6}, impl.Lead{From: 2, To: 7})
	return w
}

// crossWindow has four leads that meet at node 0, and a node apart from them.
func crossWindow() impl.Window {
	return impl.Window{
		Nodes: []impl.Node{{X: 10, Y: 10}, {X: 20, Y: 10}, {X: 10, Y: 20}, {X: 0, Y: 10}, {X: 10, Y: 0}, {X: 20, Y: 20}},
		Leads: []impl.Lead{{From: 0, To: 3}, {From: 0, To: 1}, {From: 0, To: 4}, {From: 0, To: 2}},
	}
}

func validWindows() map[string]impl.Window {
	return map[string]impl.Window{
		"sample":     impl.SampleWindow(),
		"full":       fullWindow(),
		"cross":      crossWindow(),
		"one node":   {Nodes: []impl.Node{{X: 20, Y: 20}}},
		"no leads":   {Nodes: []impl.Node{{}, {X: 20}, {Y: 20}}, Leads: []impl.Lead{}},
		"one lead":   {Nodes: []impl.Node{{}, {X: 20, Y: 20}}, Leads: []impl.Lead{{From: 0, To: 1}}},
		"in a line":  {Nodes: []impl.Node{{}, {X: 5}, {X: 10}, {X: 20}}, Leads: []impl.Lead{{From: 0, To: 1}, {From: 1, To: 2}}},
		"most nodes": {Nodes: fullWindow().Nodes},
		"half cells": {Nodes: []impl.Node{{}, {X: 1, Y: 1}, {X: 1}, {X: 2, Y: 1}}, Leads: []impl.Lead{{From: 0, To: 1}, {From: 2, To: 3}}},
	}
}

func invalidWindows() map[string]impl.Window {
	square := []impl.Node{{}, {X: 8}, {X: 8, Y: 8}, {Y: 8}, {X: 4, Y: 4}, {X: 12, Y: 12}}
	leads := func(pairs ...int) []impl.Lead {
		list := []impl.Lead{}
		for i := 0; i < len(pairs); i += 2 {
			list = append(list, impl.Lead{From: pairs[i], To: pairs[i+1]})
		}
		return list
	}
	windows := map[string]impl.Window{
		"nothing":                  {},
		"empty lists":              {Nodes: []impl.Node{}, Leads: []impl.Lead{}},
		"a lead without nodes":     {Leads: leads(0, 1)},
		"one node more":            {Nodes: append(fullWindow().Nodes, impl.Node{X: 1, Y: 1})},
		"many nodes":               {Nodes: gridOf(21, 1)},
		"one lead more":            {Nodes: fullWindow().Nodes, Leads: append(fullWindow().Leads, impl.Lead{From: 4, To: 9})},
		"equal nodes":              {Nodes: []impl.Node{{X: 3, Y: 4}, {X: 1}, {X: 3, Y: 4}}},
		"equal nodes side by side": {Nodes: []impl.Node{{X: 3, Y: 4}, {X: 3, Y: 4}}},
		"a lead of equal nodes":    {Nodes: []impl.Node{{X: 3, Y: 4}, {X: 3, Y: 4}}, Leads: leads(0, 1)},
		"leads that cross":         {Nodes: square[:4], Leads: leads(0, 2, 1, 3)},
		"the last leads cross":     {Nodes: square[:4], Leads: leads(0, 1, 0, 2, 1, 3)},
		"the outer leads cross":    {Nodes: square[:4], Leads: leads(0, 2, 0, 1, 1, 3)},
		"a lead upon its part":     {Nodes: square[:5], Leads: leads(0, 2, 0, 4)},
		"leads upon each other":    {Nodes: square, Leads: leads(0, 2, 4, 5)},
		"the same lead twice":      {Nodes: square[:4], Leads: leads(0, 1, 1, 2, 0, 1)},
		"a lead that ends midway":  {Nodes: square[:5], Leads: leads(0, 2, 1, 4)},
		"a node on a lead":         {Nodes: square[:5], Leads: leads(0, 2)},
		"an earlier node on it":    {Nodes: []impl.Node{{X: 4, Y: 4}, {}, {X: 8, Y: 8}}, Leads: leads(1, 2)},
		"a lead turned around":     {Nodes: square[:4], Leads: leads(0, 1, 2, 1)},
		"a lead to itself":         {Nodes: square[:4], Leads: leads(2, 2)},
		"a lead of extreme ints":   {Nodes: square[:4], Leads: leads(leastInt, greatestInt)},
	}
	for i, n := range nodesNotOnBoard {
		name := "a node off the board, " + string(rune('a'+i))
		windows[name+" alone"] = impl.Window{Nodes: []impl.Node{n}}
		windows[name+" first"] = impl.Window{Nodes: []impl.Node{n, {X: 1}, {X: 2}}, Leads: leads(1, 2)}
		windows[name+" last"] = impl.Window{Nodes: []impl.Node{{X: 1}, {X: 2}, n}, Leads: leads(0, 1)}
	}
	for i, k := range wrongIndices(4) {
		name := "a lead to no node, " + string(rune('a'+i))
		windows[name+" at From"] = impl.Window{Nodes: square[:4], Leads: leads(0, 1, k, 3)}
		windows[name+" at To"] = impl.Window{Nodes: square[:4], Leads: leads(0, 1, 0, k)}
	}
	return windows
}

func sameWindow(v impl.Window, w impl.Window) bool {
	return slices.Equal(v.Nodes, w.Nodes) && slices.Equal(v.Leads, w.Leads)
}

func cloneOf(w impl.Window) impl.Window {
	return impl.Window{Nodes: slices.Clone(w.Nodes), Leads: slices.Clone(w.Leads)}
}

func TestLimitsOfWindows(t *testing.T) {
	if impl.MaxNodes != 12 || impl.MaxLeads != 20 || len(fullWindow().Nodes) != 12 || len(fullWindow().Leads) != 20 {
		t.Error("a limit differs from the document")
	}
}

func TestWindowOk(t *testing.T) {
	for name, w := range validWindows() {
		if !impl.WindowOk(w) {
			t.Errorf("%s: WindowOk = false", name)
		}
	}
	for name, w := range invalidWindows() {
		if impl.WindowOk(w) {
			t.Errorf("%s: WindowOk = true", name)
		}
	}
}

// isPlane follows the document word by word, with the tests' own geometry.
func isPlane(w impl.Window) bool {
	if len(w.Nodes) < 1 || len(w.Nodes) > 12 || len(w.Leads) > 20 {
		return false
	}
	for i, n := range w.Nodes {
		if n.X < 0 || n.X > 20 || n.Y < 0 || n.Y > 20 || slices.Index(w.Nodes, n) != i {
			return false
		}
	}
	for _, l := range w.Leads {
		if l.From < 0 || l.From >= l.To || l.To >= len(w.Nodes) {
			return false
		}
	}
	for i, l := range w.Leads {
		for k, n := range w.Nodes {
			if k != l.From && k != l.To && isPassed(w.Nodes[l.From], w.Nodes[l.To], n) {
				return false
			}
		}
		for _, m := range w.Leads[:i] {
			if meetBesideEnds(w.Nodes[l.From], w.Nodes[l.To], w.Nodes[m.From], w.Nodes[m.To]) {
				return false
			}
		}
	}
	return true
}

// randomWindow is small and crowded, so that it is plane about as often as not.
func randomWindow(source *rand.Rand) impl.Window {
	w := impl.Window{}
	size := 1 + source.Intn(6)
	for range size {
		w.Nodes = append(w.Nodes, impl.Node{X: source.Intn(5), Y: source.Intn(5)})
	}
	for range source.Intn(5) {
		l := impl.Lead{From: source.Intn(size), To: source.Intn(size)}
		if l.From > l.To && source.Intn(20) > 0 {
			l.From, l.To = l.To, l.From
		}
		w.Leads = append(w.Leads, l)
	}
	return w
}

func TestWindowOkOfRandomWindows(t *testing.T) {
	source := rand.New(rand.NewSource(4))
	plane := 0
	for range 20000 {
		w := randomWindow(source)
		want := isPlane(w)
		if want && len(w.Leads) > 1 {
			plane++
		}
		if got := impl.WindowOk(w); got != want {
			t.Fatalf("WindowOk(%v) = %v", w, got)
		}
	}
	if plane < 500 {
		t.Error("too few of the random windows are plane:", plane)
	}
}

func TestLeadsAt(t *testing.T) {
	cases := []struct {
		window string
		k      int
		want   []int
	}{
		{"sample", 0, []int{0, 3, 4}}, {"sample", 1, []int{0, 1, 5}}, {"sample", 2, []int{1, 2, 6}}, {"sample", 3, []int{2, 3, 7}}, {"sample", 4, []int{4, 5, 6, 7}},
		{"cross", 0, []int{0, 1, 2, 3}}, {"cross", 1, []int{1}}, {"cross", 2, []int{3}}, {"cross", 3, []int{0}}, {"cross", 4, []int{2}}, {"cross", 5, nil},
		{"one node", 0, nil}, {"no leads", 2, nil}, {"one lead", 0, []int{0}}, {"one lead", 1, []int{0}},
		{"in a line", 1, []int{0, 1}}, {"in a line", 2, []int{1}}, {"in a line", 3, nil},
	}
	for _, c := range cases {
		w := validWindows()[c.window]
		if got := impl.LeadsAt(w, c.k); !slices.Equal(got, c.want) {
			t.Errorf("%s: LeadsAt(%d) = %v; want %v", c.window, c.k, got, c.want)
		}
		if got := impl.DegreeOf(w, c.k); got != len(c.want) {
			t.Errorf("%s: DegreeOf(%d) = %d; want %d", c.window, c.k, got, len(c.want))
		}
	}
}

func TestAllDegreesAreTwiceTheLeads(t *testing.T) {
	for name, w := range validWindows() {
		sum, listed := 0, []int{}
		for k := range w.Nodes {
			sum += impl.DegreeOf(w, k)
			listed = append(listed, impl.LeadsAt(w, k)...)
		}
		if sum != 2*len(w.Leads) || len(listed) != sum {
			t.Errorf("%s: all degrees are %d and all LeadsAt %d with %d leads", name, sum, len(listed), len(w.Leads))
		}
		for i := range w.Leads {
			if n := len(slices.DeleteFunc(slices.Clone(listed), func(k int) bool { return k != i })); n != 2 {
				t.Errorf("%s: lead %d is at %d nodes", name, i, n)
			}
		}
	}
}

func TestNodesThatAreNotThere(t *testing.T) {
	for name, w := range validWindows() {
		for _, k := range wrongIndices(len(w.Nodes)) {
			checkNoNode(t, name, w, k)
		}
	}
	for name, w := range invalidWindows() {
		for k := -1; k <= 14; k++ {
			checkNoNode(t, name, w, k)
		}
	}
}

func checkNoNode(t *testing.T, name string, w impl.Window, k int) {
	t.Helper()
	if got := impl.LeadsAt(w, k); len(got) != 0 {
		t.Errorf("%s: LeadsAt(%d) = %v; want nil", name, k, got)
	}
	if got := impl.DegreeOf(w, k); got != -1 {
		t.Errorf("%s: DegreeOf(%d) = %d; want -1", name, k, got)
	}
}

// withLead is what AddLead must return for a plane result.
func withLead(w impl.Window, a int, b int) impl.Window {
	v := cloneOf(w)
	v.Leads = append(v.Leads, impl.Lead{From: min(a, b), To: max(a, b)})
	return v
}

func TestAddLead(t *testing.T) {
	for name, w := range validWindows() {
		for a := -2; a <= len(w.Nodes)+1; a++ {
			for b := -2; b <= len(w.Nodes)+1; b++ {
				want := withLead(w, a, b)
				plane := isPlane(want)
				if !plane {
					want = w
				}
				if got, ok := impl.AddLead(w, a, b); ok != plane || !sameWindow(got, want) {
					t.Errorf("%s: AddLead(%d, %d) = %v, %v; want %v, %v", name, a, b, got, ok, want, plane)
				}
			}
		}
	}
}

func TestAddLeadToTheCross(t *testing.T) {
	cases := []struct {
		a, b int
		want bool
	}{
		{1, 5, true}, {5, 1, true}, {2, 5, true}, {5, 0, true}, {1, 2, true}, {4, 3, true},
		{1, 3, false}, {3, 1, false}, {2, 4, false}, // node 0 is on them
		{3, 5, false}, {5, 4, false}, // they cross a lead
		{0, 1, false}, {1, 0, false}, // they are there
		{0, 0, false}, {5, 5, false},
		{0, 6, false}, {6, 0, false}, {-1, 5, false}, {5, -1, false},
		{leastInt, 5, false}, {5, greatestInt, false}, {leastInt, greatestInt, false}, {greatestInt, greatestInt, false},
	}
	for _, c := range cases {
		if got, ok := impl.AddLead(crossWindow(), c.a, c.b); ok != c.want {
			t.Errorf("AddLead(%d, %d) = %v, %v", c.a, c.b, got, ok)
		} else if ok && got.Leads[4] != (impl.Lead{From: min(c.a, c.b), To: max(c.a, c.b)}) {
			t.Errorf("AddLead(%d, %d) appends %v", c.a, c.b, got.Leads[4])
		} else if !ok && !sameWindow(got, crossWindow()) {
			t.Errorf("AddLead(%d, %d) changes the window to %v", c.a, c.b, got)
		}
	}
}

func TestAddLeadAtItsLimit(t *testing.T) {
	full := fullWindow()
	last := full.Leads[19]
	almost, ok := impl.DropLead(full, 19)
	if !ok || len(almost.Leads) != 19 {
		t.Fatal("DropLead fails for the last lead of a full window")
	}
	if got, ok := impl.AddLead(almost, last.To, last.From); !ok || !sameWindow(got, full) {
		t.Error("AddLead rejects lead number MaxLeads")
	}
	// This lead is plane, so that only their number is against it.
	if got, ok := impl.AddLead(full, 4, 9); ok || !sameWindow(got, full) {
		t.Error("AddLead accepts more than MaxLeads leads")
	}
}

func TestAddedLeadsCanBeDropped(t *testing.T) {
	for name, w := range validWindows() {
		for a := range w.Nodes {
			for b := range w.Nodes {
				longer, ok := impl.AddLead(w, a, b)
				if !ok {
					continue
				}
				k := impl.LeadBetween(longer, a, b)
				if k != len(w.Leads) || impl.DegreeOf(longer, a) != impl.DegreeOf(w, a)+1 || impl.DegreeOf(longer, b) != impl.DegreeOf(w, b)+1 {
					t.Errorf("%s: AddLead(%d, %d) is not found as the last lead", name, a, b)
				}
				if got, ok := impl.DropLead(longer, k); !ok || !sameWindow(got, w) {
					t.Errorf("%s: AddLead(%d, %d) and DropLead(%d) = %v, %v; want %v", name, a, b, k, got, ok, w)
				}
			}
		}
	}
}

func TestDropLead(t *testing.T) {
	for name, w := range validWindows() {
		for k := range w.Leads {
			want := impl.Window{Nodes: w.Nodes}
			for i, l := range w.Leads {
				if i != k {
					want.Leads = append(want.Leads, l)
				}
			}
			if got, ok := impl.DropLead(w, k); !ok || !sameWindow(got, want) {
				t.Errorf("%s: DropLead(%d) = %v, %v; want %v", name, k, got, ok, want)
			}
		}
		for _, k := range wrongIndices(len(w.Leads)) {
			if got, ok := impl.DropLead(w, k); ok || !sameWindow(got, w) {
				t.Errorf("%s: DropLead(%d) = %v, %v", name, k, got, ok)
			}
		}
	}
}

func TestLeadBetween(t *testing.T) {
	for name, w := range validWindows() {
		for a := -2; a <= len(w.Nodes)+1; a++ {
			for b := -2; b <= len(w.Nodes)+1; b++ {
				want := -1
				for i, l := range w.Leads {
					if l.From == a && l.To == b || l.From == b && l.To == a {
						want = i
					}
				}
				if got := impl.LeadBetween(w, a, b); got != want {
					t.Errorf("%s: LeadBetween(%d, %d) = %d; want %d", name, a, b, got, want)
				}
			}
		}
		for _, k := range []int{leastInt, greatestInt} {
			if impl.LeadBetween(w, k, 0) != -1 || impl.LeadBetween(w, 0, k) != -1 || impl.LeadBetween(w, k, -1) != -1 || impl.LeadBetween(w, k, k) != -1 {
				t.Errorf("%s: LeadBetween finds a lead at node %d", name, k)
			}
		}
	}
}

func TestInvalidWindowsAreReturnedUnchanged(t *testing.T) {
	for name, w := range invalidWindows() {
		for a := -1; a <= 6; a++ {
			if got, ok := impl.DropLead(w, a); ok || !sameWindow(got, w) {
				t.Errorf("%s: DropLead(%d) = %v, %v", name, a, got, ok)
			}
			for b := -1; b <= 6; b++ {
				if got, ok := impl.AddLead(w, a, b); ok || !sameWindow(got, w) {
					t.Errorf("%s: AddLead(%d, %d) = %v, %v", name, a, b, got, ok)
				}
				if got := impl.LeadBetween(w, a, b); got != -1 {
					t.Errorf("%s: LeadBetween(%d, %d) = %d", name, a, b, got)
				}
			}
		}
	}
}

// roomyWindow keeps nodes and leads behind its own, where no function may write.
func roomyWindow(w impl.Window) (impl.Window, func() bool) {
	nodes := append(slices.Clone(w.Nodes), impl.Node{X: 17, Y: 19}, impl.Node{X: 19, Y: 17})
	leads := append(slices.Clone(w.Leads), impl.Lead{From: 7, To: 9}, impl.Lead{From: 8, To: 9})
	keptNodes, keptLeads := slices.Clone(nodes), slices.Clone(leads)
	roomy := impl.Window{Nodes: nodes[:len(w.Nodes)], Leads: leads[:len(w.Leads)]}
	return roomy, func() bool { return slices.Equal(nodes, keptNodes) && slices.Equal(leads, keptLeads) }
}

// scribble overwrites all that a result has, and all that is behind it.
func scribble(w impl.Window) {
	nodes, leads := w.Nodes[:cap(w.Nodes)], w.Leads[:cap(w.Leads)]
	for k := range nodes {
		nodes[k] = impl.Node{X: -7, Y: -7}
	}
	for k := range leads {
		leads[k] = impl.Lead{From: -7, To: -7}
	}
}

func TestWindowsAreNeitherModifiedNorShared(t *testing.T) {
	windows := validWindows()
	for name, w := range invalidWindows() {
		windows[name] = w
	}
	for name, w := range windows {
		roomy, isUntouched := roomyWindow(w)
		for k := -1; k <= len(w.Nodes); k++ {
			impl.DegreeOf(roomy, k)
			first := impl.LeadsAt(roomy, k)
			kept := slices.Clone(first)
			second := impl.LeadsAt(roomy, k)
			for i := range second {
				second[i] = -7
			}
			if !slices.Equal(first, kept) {
				t.Errorf("%s: two results of LeadsAt(%d) share memory", name, k)
			}
			for b := -1; b <= min(len(w.Nodes), 13); b++ {
				impl.LeadBetween(roomy, k, b)
				got, _ := impl.AddLead(roomy, k, b)
				scribble(got)
			}
		}
		for k := -1; k <= len(w.Leads); k++ {
			got, _ := impl.DropLead(roomy, k)
			scribble(got)
		}
		if !isUntouched() {
			t.Errorf("%s: the argument is modified, or a result shares its memory", name)
		}
	}
}

func TestSampleWindow(t *testing.T) {
	want := impl.Window{
		Nodes: []impl.Node{{X: 0, Y: 0}, {X: 8, Y: 0}, {X: 8, Y: 8}, {X: 0, Y: 8}, {X: 4, Y: 4}},
		Leads: []impl.Lead{{From: 0, To: 1}, {From: 1, To: 2}, {From: 2, To: 3}, {From: 0, To: 3}, {From: 0, To: 4}, {From: 1, To: 4}, {From: 2, To: 4}, {From: 3, To: 4}},
	}
	got := impl.SampleWindow()
	if !sameWindow(got, want) || !impl.WindowOk(got) {
		t.Errorf("SampleWindow = %v; want %v", got, want)
	}
	scribble(got)
	if again := impl.SampleWindow(); !sameWindow(again, want) {
		t.Errorf("SampleWindow depends on an earlier result: %v", again)
	}
}
