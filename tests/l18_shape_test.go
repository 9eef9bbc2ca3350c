package tests

import (
	"math/rand"
	"slices"
	"testing"

	"loop.example/g03303/impl"
)

// placesOf reads the places of nodes in pairs.
func placesOf(places ...int) []impl.Node { return drawn(places).Nodes }

// settledByHand tries each beginning until no node is lower, or as low and
// further to the left.
func settledByHand(s []impl.Node) []impl.Node {
	low, _ := boxAround(impl.Window{Nodes: s}, indicesOf(len(s)))
	for i, first := range s {
		isLowest := !slices.ContainsFunc(s, func(n impl.Node) bool {
			return 100*n.Y+n.X < 100*first.Y+first.X
		})
		if !isLowest {
			continue
		}
		settled := []impl.Node{}
		for _, n := range append(slices.Clone(s[i:]), s[:i]...) {
			settled = append(settled, impl.Node{X: n.X - low.X, Y: n.Y - low.Y})
		}
		return settled
	}
	return nil
}

func indicesOf(length int) []int {
	indices := []int{}
	for i := range length {
		indices = append(indices, i)
	}
	return indices
}

// turnedOnBoard turns nodes around the middle of the board, so that they stay
// on it.
func turnedOnBoard(s []impl.Node) []impl.Node {
	turned := []impl.Node{}
	for _, n := range s {
		turned = append(turned, impl.Node{X: 20 - n.Y, Y: n.X})
	}
	return turned
}

func mirroredOnBoard(s []impl.Node) []impl.Node {
	mirrored := []impl.Node{}
	for _, n := range s {
		mirrored = append(mirrored, impl.Node{X: 20 - n.X, Y: n.Y})
	}
	return mirrored
}

// mirrorByHand goes through the nodes from the last one to the first one.
func mirrorByHand(s []impl.Node) []impl.Node {
	mirrored := []impl.Node{}
	for i := len(s) - 1; i >= 0; i-- {
		mirrored = append(mirrored, mirroredOnBoard(s)[i])
	}
	return settledByHand(mirrored)
}

// areAlikeByHand compares s with t in four positions.
func areAlikeByHand(s []impl.Node, t []impl.Node) bool {
	for range 4 {
		if t = settledByHand(turnedOnBoard(t)); slices.Equal(s, t) {
			return true
		}
	}
	return false
}

func shapeByHand(w impl.Window, f int) []impl.Node {
	if !isOnePiece(w, f) {
		return nil
	}
	nodes := []impl.Node{}
	for _, k := range nodesAlong(w, facesByAngle(w)[f]) {
		nodes = append(nodes, w.Nodes[k])
	}
	return settledByHand(nodes)
}

// wrongShapes are empty or have a node that is not valid.
func wrongShapes() [][]impl.Node {
	shapes := [][]impl.Node{nil, {}}
	for _, n := range nodesNotOnBoard {
		shapes = append(shapes, []impl.Node{n}, []impl.Node{n, {X: 4}, {Y: 4}}, []impl.Node{{}, n, {Y: 4}}, []impl.Node{{}, {X: 4}, n})
	}
	return shapes
}

func TestShapesByHand(t *testing.T) {
	whole := wholeWindows()
	cases := []struct {
		window string
		f      int
		shape  []impl.Node
		turned []impl.Node
		mirror []impl.Node
	}{
		{"sample", 0, placesOf(0, 0, 8, 0, 4, 4), placesOf(4, 0, 4, 8, 0, 4), placesOf(0, 0, 8, 0, 4, 4)},
		{"sample", 2, placesOf(4, 0, 4, 8, 0, 4), placesOf(4, 0, 8, 4, 0, 4), placesOf(0, 0, 4, 4, 0, 8)},
		{"sample", 3, placesOf(4, 0, 8, 4, 0, 4), placesOf(0, 0, 4, 4, 0, 8), placesOf(4, 0, 8, 4, 0, 4)},
		{"sample", 4, placesOf(0, 0, 4, 4, 0, 8), placesOf(0, 0, 8, 0, 4, 4), placesOf(4, 0, 4, 8, 0, 4)},
		{"two cells", 2, placesOf(0, 0, 4, 0, 4, 4, 0, 4), placesOf(0, 0, 4, 0, 4, 4, 0, 4), placesOf(0, 0, 4, 0, 4, 4, 0, 4)},
		{"backwards", 1, placesOf(0, 0, 6, 0, 0, 6), placesOf(0, 0, 6, 0, 6, 6), placesOf(0, 0, 6, 0, 6, 6)},
		{"straight edge", 0, placesOf(0, 0, 4, 0, 8, 0, 8, 8, 0, 8), placesOf(0, 0, 8, 0, 8, 4, 8, 8, 0, 8), placesOf(0, 0, 4, 0, 8, 0, 8, 8, 0, 8)},
		{"arrow", 0, placesOf(0, 0, 10, 5, 0, 10, 3, 5), placesOf(0, 0, 5, 3, 10, 0, 5, 10), placesOf(10, 0, 7, 5, 10, 10, 0, 5)},
		{"bow tie", 2, placesOf(4, 0, 4, 4, 0, 2), placesOf(2, 0, 4, 4, 0, 4), placesOf(0, 0, 4, 2, 0, 4)},
		{"bridge", 2, placesOf(0, 0, 4, 0, 0, 4), placesOf(0, 0, 4, 0, 4, 4), placesOf(0, 0, 4, 0, 4, 4)},
	}
	for _, c := range cases {
		got := impl.ShapeOf(whole[c.window], c.f)
		if !slices.Equal(got, c.shape) {
			t.Errorf("%s: ShapeOf(%d) = %v; want %v", c.window, c.f, got, c.shape)
		}
		if got := impl.TurnShape(c.shape); !slices.Equal(got, c.turned) {
			t.Errorf("TurnShape(%v) = %v; want %v", c.shape, got, c.turned)
		}
		if got := impl.MirrorShape(c.shape); !slices.Equal(got, c.mirror) {
			t.Errorf("MirrorShape(%v) = %v; want %v", c.shape, got, c.mirror)
		}
	}
}

func TestShapesWithEqualOrLevelNodes(t *testing.T) {
	cases := []struct {
		name                string
		s, turned, mirrored []impl.Node
	}{
		{"one node", placesOf(20, 7), placesOf(0, 0), placesOf(0, 0)},
		{"one node twice", placesOf(3, 3, 3, 3), placesOf(0, 0, 0, 0), placesOf(0, 0, 0, 0)},
		{"several lowest nodes", placesOf(9, 2, 5, 2, 7, 2, 7, 9), placesOf(7, 0, 7, 2, 0, 2, 7, 4), placesOf(0, 0, 2, 7, 2, 0, 4, 0)},
		{"a node twice, and another one as low", placesOf(2, 2, 6, 5, 2, 2, 2, 7), placesOf(0, 0, 5, 0, 2, 4, 5, 0), placesOf(4, 0, 0, 3, 4, 0, 4, 5)},
		{"the turned lowest node twice", placesOf(9, 9, 2, 5, 4, 4, 2, 5, 3, 3), placesOf(4, 0, 5, 2, 4, 0, 6, 1, 0, 7), placesOf(6, 0, 7, 2, 5, 1, 7, 2, 0, 6)},
		{"the lowest node twice after the mirror", placesOf(4, 4, 9, 1, 7, 7, 9, 1, 5, 5), placesOf(3, 0, 6, 5, 0, 3, 6, 5, 2, 1), placesOf(0, 0, 2, 6, 0, 0, 5, 3, 4, 4)},
	}
	for _, c := range cases {
		if got := impl.TurnShape(c.s); !slices.Equal(got, c.turned) {
			t.Errorf("%s: TurnShape(%v) = %v; want %v", c.name, c.s, got, c.turned)
		}
		if got := impl.MirrorShape(c.s); !slices.Equal(got, c.mirrored) {
			t.Errorf("%s: MirrorShape(%v) = %v; want %v", c.name, c.s, got, c.mirrored)
		}
	}
}

func TestShapesAlike(t *testing.T) {
	square := placesOf(0, 0, 4, 0, 4, 4, 0, 4)
	oblong := placesOf(0, 0, 4, 0, 4, 2, 0, 2)
	slanted := placesOf(0, 0, 4, 0, 6, 2, 2, 2) // as it is after half a turn
	hook := placesOf(0, 0, 6, 0, 0, 2)
	hooked := placesOf(0, 0, 6, 0, 6, 2) // the mirrored hook
	roof := placesOf(0, 0, 8, 0, 4, 4)   // its own mirror image
	cases := []struct {
		name            string
		s, t            []impl.Node
		alike, mirrored bool
	}{
		{"a square", square, square, true, true},
		{"an oblong", oblong, oblong, true, true},
		{"an oblong, turned", placesOf(0, 0, 2, 0, 2, 4, 0, 4), oblong, true, true},
		{"an oblong and a square", oblong, square, false, false},
		{"a slanted one", slanted, slanted, true, false},
		{"a slanted one and its mirror image", slanted, placesOf(2, 0, 6, 0, 4, 2, 0, 2), false, true},
		{"a roof", roof, roof, true, true},
		{"a roof, turned", placesOf(4, 0, 4, 8, 0, 4), roof, true, true},
		{"a hook", hook, hook, true, false},
		{"a hook and its mirror image", hook, hooked, false, true},
		{"a hook, turned by half, and its mirror image", placesOf(6, 0, 6, 2, 0, 2), hooked, false, true},
		{"a hook, turned three times", placesOf(0, 0, 2, 6, 0, 6), hook, true, false},
		{"of another size", placesOf(0, 0, 3, 0, 0, 1), hook, false, false},
		{"with a straight corner", placesOf(0, 0, 2, 0, 4, 0, 4, 4, 0, 4), square, false, false},
		{"the first one not moved", placesOf(1, 0, 5, 0, 5, 4, 1, 4), square, false, false},
		{"the second one not moved", square, placesOf(1, 0, 5, 0, 5, 4, 1, 4), true, true},
		{"the first one not begun", placesOf(4, 0, 4, 4, 0, 4, 0, 0), square, false, false},
		{"the second one not begun", square, placesOf(4, 0, 4, 4, 0, 4, 0, 0), true, true},
		{"the other way around", placesOf(0, 0, 0, 4, 4, 4, 4, 0), square, false, false},
	}
	for _, c := range cases {
		if got := impl.AreAlike(c.s, c.t); got != c.alike {
			t.Errorf("%s: AreAlike(%v, %v) = %v", c.name, c.s, c.t, got)
		}
		if got := impl.AreMirrored(c.s, c.t); got != c.mirrored {
			t.Errorf("%s: AreMirrored(%v, %v) = %v", c.name, c.s, c.t, got)
		}
	}
}

func TestSameShape(t *testing.T) {
	s := placesOf(0, 0, 4, 0, 0, 4)
	cases := []struct {
		s, t []impl.Node
		want bool
	}{
		{s, s, true}, {s, placesOf(0, 0, 4, 0, 0, 4), true}, {placesOf(21, -1), placesOf(21, -1), true},
		{s, s[:2], false}, {s[:2], s, false}, {s, placesOf(0, 0, 4, 0, 0, 5), false}, {s, placesOf(4, 0, 0, 4, 0, 0), false},
		{nil, nil, false}, {nil, []impl.Node{}, false}, {[]impl.Node{}, []impl.Node{}, false}, {s, nil, false}, {nil, s, false},
	}
	for _, c := range cases {
		if got := impl.SameShape(c.s, c.t); got != c.want {
			t.Errorf("SameShape(%v, %v) = %v", c.s, c.t, got)
		}
	}
}

// checkShape compares all that chapter 18 says of one list of valid nodes.
func checkShape(t *testing.T, s []impl.Node) {
	t.Helper()
	turned, mirrored := impl.TurnShape(s), impl.MirrorShape(s)
	if want := settledByHand(turnedOnBoard(s)); !slices.Equal(turned, want) {
		t.Errorf("TurnShape(%v) = %v; want %v", s, turned, want)
	}
	if want := mirrorByHand(s); !slices.Equal(mirrored, want) {
		t.Errorf("MirrorShape(%v) = %v; want %v", s, mirrored, want)
	}
	settled := settledByHand(s)
	for _, other := range [][]impl.Node{s, settled, turned, mirrored} {
		if got := impl.AreAlike(settled, other); got != areAlikeByHand(settled, other) {
			t.Errorf("AreAlike(%v, %v) = %v", settled, other, got)
		}
		if got := impl.AreMirrored(settled, other); got != areAlikeByHand(settled, mirrorByHand(other)) {
			t.Errorf("AreMirrored(%v, %v) = %v", settled, other, got)
		}
	}
}

// checkTurns compares what comes back after some turns and mirrors. Where two
// nodes are equal, another one of them may be the first one then.
func checkTurns(t *testing.T, s []impl.Node) {
	t.Helper()
	turned, mirrored, settled := impl.TurnShape(s), impl.MirrorShape(s), settledByHand(s)
	if got := impl.TurnShape(impl.TurnShape(impl.TurnShape(turned))); !slices.Equal(got, settled) {
		t.Errorf("four quarter turns make %v of %v", got, s)
	}
	if got := impl.MirrorShape(mirrored); !slices.Equal(got, settled) {
		t.Errorf("two mirrors make %v of %v", got, s)
	}
	if !impl.AreAlike(settled, settled) || !impl.AreAlike(settled, turned) || !impl.AreMirrored(settled, mirrored) {
		t.Errorf("%v is not like itself after a turn or a mirror", s)
	}
}

func TestFourQuarterTurnsChangeNoShape(t *testing.T) {
	source := rand.New(rand.NewSource(18))
	different := 0
	for range 3000 {
		s, size := []impl.Node{}, 1+source.Intn(20)
		for range 1 + source.Intn(6) {
			s = append(s, impl.Node{X: source.Intn(size + 1), Y: source.Intn(size + 1)})
		}
		checkShape(t, s)
		if !hasEqualNodes(s) {
			different++
			checkTurns(t, s)
		}
	}
	if different < 1000 || different > 2800 {
		t.Error("too few lists have equal nodes, or too many:", 3000-different)
	}
	for _, w := range someWholeWindows(181, 100) {
		for f := range facesByAngle(w) {
			if isOnePiece(w, f) {
				checkShape(t, shapeByHand(w, f))
				checkTurns(t, shapeByHand(w, f))
			}
		}
	}
}

func hasEqualNodes(s []impl.Node) bool {
	for i, n := range s {
		if slices.Index(s, n) != i {
			return true
		}
	}
	return false
}

func TestShapesOfAllFaces(t *testing.T) {
	for name, w := range someWholeWindows(182, 200) {
		turned := impl.Window{Nodes: turnedOnBoard(w.Nodes), Leads: w.Leads}
		mirrored := impl.Window{Nodes: mirroredOnBoard(w.Nodes), Leads: w.Leads}
		for f, walk := range facesByAngle(w) {
			s := impl.ShapeOf(w, f)
			if want := shapeByHand(w, f); !slices.Equal(s, want) {
				t.Errorf("%s: ShapeOf(%d) = %v; want %v", name, f, s, want)
			}
			if got := impl.ShapeOf(turned, f); !slices.Equal(got, impl.TurnShape(s)) {
				t.Errorf("%s: ShapeOf(%d) of the turned window = %v", name, f, got)
			}
			// The mirror exchanges left and right: the same face is at the twin.
			other := impl.FaceAt(mirrored, impl.TwinOf(walk[0]))
			if got := impl.ShapeOf(mirrored, other); !slices.Equal(got, impl.MirrorShape(s)) {
				t.Errorf("%s: ShapeOf(%d) of the mirrored window = %v", name, f, got)
			}
		}
	}
}

func TestFacesWithoutAShape(t *testing.T) {
	whole := wholeWindows()
	for name, f := range map[string]int{"sample": 1, "one lead": 0, "path": 0, "inner spike": 0, "pane in corner": 0, "hanging pane": 0, "backwards": 0} {
		if got := impl.ShapeOf(whole[name], f); len(got) != 0 {
			t.Errorf("%s: ShapeOf(%d) = %v; want nil", name, f, got)
		}
	}
	for name, w := range whole {
		for _, f := range append(wrongIndices(len(facesByAngle(w))), wallAround(w)) {
			if got := impl.ShapeOf(w, f); len(got) != 0 {
				t.Errorf("%s: ShapeOf(%d) = %v; want nil", name, f, got)
			}
		}
	}
	for name, w := range notWholeWindows() {
		for f := -1; f <= 12; f++ {
			if got := impl.ShapeOf(w, f); len(got) != 0 {
				t.Errorf("%s: ShapeOf(%d) = %v; want nil", name, f, got)
			}
		}
	}
}

func TestShapesThatAreNotValid(t *testing.T) {
	square := placesOf(0, 0, 4, 0, 4, 4, 0, 4)
	for _, s := range wrongShapes() {
		if got := impl.TurnShape(s); len(got) != 0 {
			t.Errorf("TurnShape(%v) = %v; want nil", s, got)
		}
		if got := impl.MirrorShape(s); len(got) != 0 {
			t.Errorf("MirrorShape(%v) = %v; want nil", s, got)
		}
		for _, p := range [][2][]impl.Node{{s, s}, {s, square}, {square, s}} {
			if impl.AreAlike(p[0], p[1]) || impl.AreMirrored(p[0], p[1]) {
				t.Errorf("%v and %v are alike", p[0], p[1])
			}
		}
	}
	// Both corners of the board are valid.
	whole := placesOf(0, 0, 20, 0, 20, 20, 0, 20)
	if !slices.Equal(impl.TurnShape(whole), whole) || !slices.Equal(impl.MirrorShape(whole), whole) || !impl.AreAlike(whole, whole) {
		t.Error("the whole board is no shape")
	}
}

func TestShapesLeaveArgumentsAsTheyAre(t *testing.T) {
	junk := impl.Node{X: -7, Y: -7}
	for name, w := range wholeWindows() {
		roomy, isUntouched := roomyWindow(w)
		nodes, areUntouched := roomyOf(w.Nodes, junk, impl.Node{X: 1, Y: 1})
		checkFreshOf(t, name+", TurnShape", junk, func() []impl.Node { return impl.TurnShape(nodes) })
		checkFreshOf(t, name+", MirrorShape", junk, func() []impl.Node { return impl.MirrorShape(nodes) })
		impl.SameShape(nodes, nodes)
		impl.AreAlike(nodes, nodes)
		impl.AreMirrored(nodes, nodes)
		for f := range facesByAngle(w) {
			checkFreshOf(t, name+", ShapeOf", junk, func() []impl.Node { return impl.ShapeOf(roomy, f) })
		}
		if !isUntouched() || !areUntouched() {
			t.Errorf("%s: an argument is modified, or a result shares its memory", name)
		}
	}
}
