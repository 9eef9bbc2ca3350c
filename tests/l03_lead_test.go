package tests

import (
	"testing"

	"loop.example/g03303/impl"
)

// wrongIndices are no indices of a list of the given length.
func wrongIndices(length int) []int {
	return []int{-1, -2, leastInt, length, length + 1, greatestInt}
}

// allLeads returns every lead with From less than To between nodes that differ.
func allLeads(nodes []impl.Node) []impl.Lead {
	leads := []impl.Lead{}
	for to := range nodes {
		for from := range to {
			if nodes[from] != nodes[to] {
				leads = append(leads, impl.Lead{From: from, To: to})
			}
		}
	}
	return leads
}

func TestLeadOk(t *testing.T) {
	nodes := []impl.Node{{}, {X: 4}, {X: 20, Y: 20}, {Y: 20}}
	for from := -2; from <= 5; from++ {
		for to := -2; to <= 5; to++ {
			want := 0 <= from && from < to && to < 4
			if got := impl.LeadOk(nodes, impl.Lead{From: from, To: to}); got != want {
				t.Errorf("LeadOk(%d, %d) = %v", from, to, got)
			}
		}
	}
	for _, k := range wrongIndices(len(nodes)) {
		for _, l := range []impl.Lead{{From: k, To: 1}, {From: 1, To: k}, {From: k, To: k}} {
			if impl.LeadOk(nodes, l) {
				t.Errorf("LeadOk(%v) = true", l)
			}
		}
	}
	if impl.LeadOk(nodes, impl.Lead{From: leastInt, To: greatestInt}) || impl.LeadOk(nodes, impl.Lead{From: greatestInt, To: leastInt}) {
		t.Error("LeadOk accepts the extreme ints")
	}
}

func TestLeadOkWithoutNodes(t *testing.T) {
	for _, nodes := range [][]impl.Node{nil, {}, {{}}} {
		for _, l := range []impl.Lead{{}, {To: 1}, {From: -1}, {From: -1, To: 1}, {From: -2, To: -1}} {
			if impl.LeadOk(nodes, l) || impl.DoCross(nodes, l, l) || impl.IsOnLead(nodes, l, impl.Node{}) {
				t.Errorf("lead %v is accepted with %d nodes", l, len(nodes))
			}
		}
	}
}

func TestLeadOkLooksAtBothEnds(t *testing.T) {
	for _, n := range nodesNotOnBoard {
		nodes := []impl.Node{{X: 1, Y: 1}, n, {X: 9, Y: 1}, n}
		for _, l := range []impl.Lead{{From: 0, To: 1}, {From: 1, To: 2}, {From: 1, To: 3}} {
			if impl.LeadOk(nodes, l) {
				t.Errorf("LeadOk(%v, %v) = true", nodes, l)
			}
		}
		if !impl.LeadOk(nodes, impl.Lead{From: 0, To: 2}) {
			t.Errorf("LeadOk rejects a lead for another node %v", n)
		}
	}
	same := []impl.Node{{X: 3, Y: 4}, {X: 3, Y: 4}, {X: 3, Y: 5}, {X: 4, Y: 4}}
	if impl.LeadOk(same, impl.Lead{From: 0, To: 1}) {
		t.Error("LeadOk accepts a lead between equal nodes")
	}
	if !impl.LeadOk(same, impl.Lead{From: 0, To: 2}) || !impl.LeadOk(same, impl.Lead{From: 1, To: 3}) {
		t.Error("LeadOk rejects nodes that share one coordinate")
	}
	if !impl.LeadOk(gridOf(21, 1), impl.Lead{From: 0, To: 440}) {
		t.Error("LeadOk has a limit for the list of nodes")
	}
}

// ratio holds a fraction with a positive denominator.
type ratio struct{ over, under int }

func ratioOf(over int, under int) ratio {
	if under < 0 {
		return ratio{-over, -under}
	}
	return ratio{over, under}
}

func (r ratio) isInside() bool { return 0 <= r.over && r.over <= r.under }

func (r ratio) isEnd() bool { return r.over == 0 || r.over == r.under }

// meetBesideEnds solves a + s*(b-a) = c + u*(d-c) and looks for a common point
// that is not an end of both.
func meetBesideEnds(a, b, c, d impl.Node) bool {
	px, py, qx, qy := b.X-a.X, b.Y-a.Y, d.X-c.X, d.Y-c.Y
	rx, ry := c.X-a.X, c.Y-a.Y
	if under := px*qy - py*qx; under != 0 {
		s, u := ratioOf(rx*qy-ry*qx, under), ratioOf(rx*py-ry*px, under)
		return s.isInside() && u.isInside() && !(s.isEnd() && u.isEnd())
	}
	if px*ry != py*rx {
		return false
	}
	// In one line, the leads share more than an end if their shadows on the
	// line overlap by more than a point.
	low, high := px*rx+py*ry, px*(d.X-a.X)+py*(d.Y-a.Y)
	return max(0, min(low, high)) < min(px*px+py*py, max(low, high))
}

func TestDoCross(t *testing.T) {
	nodes := []impl.Node{{X: 0, Y: 4}, {X: 8, Y: 4}, {X: 4, Y: 0}, {X: 4, Y: 8}, {X: 4, Y: 4}, {X: 12, Y: 4}, {X: 2, Y: 4}, {X: 6, Y: 4}, {X: 0, Y: 5}, {X: 8, Y: 5}, {X: 1, Y: 0}, {X: 0, Y: 1}, {X: 16, Y: 4}}
	cases := []struct {
		name string
		l, m impl.Lead
		want bool
	}{
		{"they cross", impl.Lead{From: 0, To: 1}, impl.Lead{From: 2, To: 3}, true},
		{"one ends in the middle from above", impl.Lead{From: 0, To: 1}, impl.Lead{From: 3, To: 4}, true},
		{"one ends in the middle from below", impl.Lead{From: 0, To: 1}, impl.Lead{From: 2, To: 4}, true},
		{"one ends in the middle at its From", impl.Lead{From: 0, To: 1}, impl.Lead{From: 4, To: 9}, true},
		{"the same lead", impl.Lead{From: 0, To: 1}, impl.Lead{From: 0, To: 1}, true},
		{"one is a part with an end in common", impl.Lead{From: 0, To: 1}, impl.Lead{From: 0, To: 4}, true},
		{"one is a part with the other end in common", impl.Lead{From: 0, To: 1}, impl.Lead{From: 1, To: 4}, true},
		{"one is a part without an end in common", impl.Lead{From: 0, To: 1}, impl.Lead{From: 6, To: 7}, true},
		{"they lie upon each other in part", impl.Lead{From: 0, To: 1}, impl.Lead{From: 4, To: 5}, true},
		{"in one line with an end in common", impl.Lead{From: 0, To: 1}, impl.Lead{From: 1, To: 5}, false},
		{"in one line and apart", impl.Lead{From: 0, To: 1}, impl.Lead{From: 5, To: 12}, false},
		{"an end in common", impl.Lead{From: 0, To: 1}, impl.Lead{From: 1, To: 3}, false},
		{"the other end in common", impl.Lead{From: 0, To: 1}, impl.Lead{From: 0, To: 3}, false},
		{"parallel", impl.Lead{From: 0, To: 1}, impl.Lead{From: 8, To: 9}, false},
		{"apart", impl.Lead{From: 0, To: 1}, impl.Lead{From: 10, To: 11}, false},
		{"the line of one divides the other one only", impl.Lead{From: 5, To: 12}, impl.Lead{From: 2, To: 3}, false},
		{"the end of one is in the line of the other one only", impl.Lead{From: 5, To: 12}, impl.Lead{From: 3, To: 4}, false},
	}
	for _, c := range cases {
		if got := impl.DoCross(nodes, c.l, c.m); got != c.want {
			t.Errorf("%s: DoCross = %v", c.name, got)
		}
		if got := impl.DoCross(nodes, c.m, c.l); got != c.want {
			t.Errorf("%s: DoCross = %v the other way around", c.name, got)
		}
	}
}

func TestDoCrossOfAllPairs(t *testing.T) {
	grids := [][]impl.Node{
		gridOf(5, 1),
		gridOf(3, 10),
		// Each place has two indices, so that ends are the same by place alone.
		append(gridOf(3, 1), gridOf(3, 1)...),
	}
	for _, nodes := range grids {
		leads := allLeads(nodes)
		for _, l := range leads {
			for _, m := range leads {
				want := meetBesideEnds(nodes[l.From], nodes[l.To], nodes[m.From], nodes[m.To])
				if got := impl.DoCross(nodes, l, m); got != want {
					t.Fatalf("DoCross(%v-%v, %v-%v) = %v", nodes[l.From], nodes[l.To], nodes[m.From], nodes[m.To], got)
				}
			}
		}
	}
}

func TestDoCrossComparesPlaces(t *testing.T) {
	nodes := []impl.Node{{}, {X: 4}, {}, {X: 4}, {Y: 4}, {X: 2}, {X: 8}}
	cases := []struct {
		m    impl.Lead
		want bool
	}{
		{impl.Lead{From: 2, To: 3}, true},  // the same places
		{impl.Lead{From: 0, To: 3}, true},  // the same places, one by the same index
		{impl.Lead{From: 2, To: 5}, true},  // a part that begins at the same place
		{impl.Lead{From: 3, To: 5}, true},  // a part that begins at the other end
		{impl.Lead{From: 2, To: 4}, false}, // only an end at the same place
		{impl.Lead{From: 3, To: 4}, false}, // only the other end
		{impl.Lead{From: 3, To: 6}, false}, // in one line, with an end at the same place
	}
	for _, c := range cases {
		l := impl.Lead{From: 0, To: 1}
		if got := impl.DoCross(nodes, l, c.m); got != c.want || impl.DoCross(nodes, c.m, l) != c.want {
			t.Errorf("DoCross(%v, %v) is not %v both ways", l, c.m, c.want)
		}
	}
}

func TestDoCrossRejectsInvalidLeads(t *testing.T) {
	nodes := []impl.Node{{Y: 4}, {X: 8, Y: 4}, {X: 4}, {X: 4, Y: 8}, {X: 4, Y: 21}, {X: 4, Y: -1}, {X: 8, Y: 4}}
	l := impl.Lead{From: 0, To: 1}
	wrong := []impl.Lead{{From: 3, To: 2}, {From: 1, To: 0}, {From: 2, To: 2}, {From: 1, To: 6}, {From: 2, To: 4}, {From: 3, To: 5}, {From: 4, To: 5}}
	for _, k := range wrongIndices(len(nodes)) {
		wrong = append(wrong, impl.Lead{From: k, To: 3}, impl.Lead{From: 2, To: k}, impl.Lead{From: k, To: k})
	}
	for _, m := range wrong {
		if impl.DoCross(nodes, l, m) || impl.DoCross(nodes, m, l) || impl.DoCross(nodes, m, m) {
			t.Errorf("DoCross accepts the lead %v", m)
		}
	}
}

func TestIsOnLead(t *testing.T) {
	nodes := []impl.Node{{X: 2, Y: 3}, {X: 8, Y: 6}, {X: 4, Y: 4}}
	l := impl.Lead{From: 0, To: 1}
	for _, n := range []impl.Node{{X: 2, Y: 3}, {X: 4, Y: 4}, {X: 6, Y: 5}, {X: 8, Y: 6}} {
		if !impl.IsOnLead(nodes, l, n) {
			t.Errorf("IsOnLead(%v) = false", n)
		}
	}
	for _, n := range []impl.Node{{X: 0, Y: 2}, {X: 10, Y: 7}, {X: 20, Y: 12}, {X: 5, Y: 4}, {X: 5, Y: 5}, {X: 2, Y: 4}, {X: 8, Y: 3}, {}} {
		if impl.IsOnLead(nodes, l, n) {
			t.Errorf("IsOnLead(%v) = true", n)
		}
	}
}

func TestIsOnLeadOfAllNodes(t *testing.T) {
	grid := gridOf(5, 1)
	for _, l := range allLeads(grid) {
		for _, n := range grid {
			a, b := grid[l.From], grid[l.To]
			want := n == a || n == b || isPassed(a, b, n)
			if got := impl.IsOnLead(grid, l, n); got != want {
				t.Fatalf("IsOnLead(%v-%v, %v) = %v", a, b, n, got)
			}
		}
	}
}

func TestIsOnLeadRejects(t *testing.T) {
	nodes := []impl.Node{{}, {X: 20}, {X: 21}, {X: -1}, {}}
	l := impl.Lead{From: 0, To: 1}
	for _, n := range append(nodesNotOnBoard, nodes[2], nodes[3]) {
		if impl.IsOnLead(nodes, l, n) {
			t.Errorf("IsOnLead(%v) = true for a node off the board", n)
		}
	}
	wrong := []impl.Lead{{From: 1, To: 0}, {From: 0, To: 0}, {From: 0, To: 2}, {From: 0, To: 3}, {From: 2, To: 3}, {From: 0, To: 4}}
	for _, k := range wrongIndices(len(nodes)) {
		wrong = append(wrong, impl.Lead{From: k, To: 1}, impl.Lead{From: 0, To: k})
	}
	for _, m := range wrong {
		for _, n := range append(nodes, impl.Node{X: 5}) {
			if impl.IsOnLead(nodes, m, n) {
				t.Errorf("IsOnLead(%v, %v) = true for an invalid lead", m, n)
			}
		}
	}
}

func TestOtherEnd(t *testing.T) {
	cases := []struct {
		l       impl.Lead
		k, want int
	}{
		{impl.Lead{From: 0, To: 1}, 0, 1}, {impl.Lead{From: 0, To: 1}, 1, 0}, {impl.Lead{From: 0, To: 1}, 2, -1}, {impl.Lead{From: 0, To: 1}, -1, -1},
		{impl.Lead{From: 3, To: 7}, 3, 7}, {impl.Lead{From: 3, To: 7}, 7, 3}, {impl.Lead{From: 3, To: 7}, 0, -1}, {impl.Lead{From: 3, To: 7}, 5, -1},
		{impl.Lead{From: 7, To: 3}, 3, 7}, {impl.Lead{From: 7, To: 3}, 7, 3}, {impl.Lead{From: 4, To: 4}, 4, 4}, {impl.Lead{From: 4, To: 4}, 3, -1},
		{impl.Lead{From: -5, To: 9}, -5, 9}, {impl.Lead{From: -5, To: 9}, 9, -5}, {impl.Lead{From: -1, To: 9}, -1, 9},
		{impl.Lead{From: leastInt, To: greatestInt}, leastInt, greatestInt}, {impl.Lead{From: leastInt, To: greatestInt}, greatestInt, leastInt}, {impl.Lead{From: leastInt, To: greatestInt}, 0, -1},
	}
	for _, c := range cases {
		if got := impl.OtherEnd(c.l, c.k); got != c.want {
			t.Errorf("OtherEnd(%v, %d) = %d; want %d", c.l, c.k, got, c.want)
		}
	}
}

func TestShareNode(t *testing.T) {
	cases := []struct {
		l, m impl.Lead
		want bool
	}{
		{impl.Lead{From: 0, To: 1}, impl.Lead{From: 0, To: 2}, true},
		{impl.Lead{From: 0, To: 2}, impl.Lead{From: 1, To: 2}, true},
		{impl.Lead{From: 0, To: 1}, impl.Lead{From: 1, To: 2}, true},
		{impl.Lead{From: 1, To: 2}, impl.Lead{From: 0, To: 1}, true},
		{impl.Lead{From: 0, To: 1}, impl.Lead{From: 0, To: 1}, true},
		{impl.Lead{From: 0, To: 1}, impl.Lead{From: 1, To: 0}, true},
		{impl.Lead{From: 0, To: 1}, impl.Lead{From: 2, To: 3}, false},
		{impl.Lead{From: 0, To: 2}, impl.Lead{From: 1, To: 3}, false},
		{impl.Lead{From: 5, To: 5}, impl.Lead{From: 4, To: 6}, false},
		{impl.Lead{From: -1, To: 3}, impl.Lead{From: 7, To: -1}, true},
		{impl.Lead{From: leastInt, To: 0}, impl.Lead{From: greatestInt, To: leastInt}, true},
		{impl.Lead{From: leastInt, To: 0}, impl.Lead{From: greatestInt, To: 1}, false},
	}
	for _, c := range cases {
		if got := impl.ShareNode(c.l, c.m); got != c.want {
			t.Errorf("ShareNode(%v, %v) = %v", c.l, c.m, got)
		}
		if got := impl.ShareNode(c.m, c.l); got != c.want {
			t.Errorf("ShareNode(%v, %v) = %v", c.m, c.l, got)
		}
	}
}

func TestLeadFunctionsLeaveTheNodesAsTheyAre(t *testing.T) {
	nodes := gridOf(3, 2)
	l, m := impl.Lead{From: 0, To: 8}, impl.Lead{From: 2, To: 6}
	impl.LeadOk(nodes, l)
	impl.DoCross(nodes, l, m)
	impl.IsOnLead(nodes, l, nodes[4])
	for k, n := range gridOf(3, 2) {
		if nodes[k] != n {
			t.Errorf("node %d is now %v", k, nodes[k])
		}
	}
}
