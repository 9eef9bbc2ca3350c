package tests

import (
	"math"
	"testing"

	"loop.example/g03303/impl"
)

// nodesNotOnBoard holds a coordinate just past each limit and the extreme ints.
var nodesNotOnBoard = []impl.Node{
	{X: -1, Y: 0}, {X: 0, Y: -1}, {X: 21, Y: 0}, {X: 0, Y: 21}, {X: -1, Y: -1}, {X: 21, Y: 21},
	{X: 20, Y: 21}, {X: 21, Y: 20}, {X: 5, Y: -1}, {X: -1, Y: 5},
	{X: leastInt, Y: 0}, {X: 0, Y: leastInt}, {X: greatestInt, Y: 0}, {X: 0, Y: greatestInt},
	{X: leastInt, Y: leastInt}, {X: greatestInt, Y: greatestInt}, {X: leastInt, Y: greatestInt}, {X: greatestInt, Y: leastInt},
}

// gridOf returns the nodes of a square grid, row by row.
func gridOf(size int, step int) []impl.Node {
	grid := []impl.Node{}
	for y := range size {
		for x := range size {
			grid = append(grid, impl.Node{X: x * step, Y: y * step})
		}
	}
	return grid
}

func TestLimitOfNodes(t *testing.T) {
	if impl.MaxSide != 20 {
		t.Error("MaxSide differs from the document:", impl.MaxSide)
	}
}

func TestNodeOk(t *testing.T) {
	for x := -3; x <= 24; x++ {
		for y := -3; y <= 24; y++ {
			want := x >= 0 && x <= 20 && y >= 0 && y <= 20
			if got := impl.NodeOk(impl.Node{X: x, Y: y}); got != want {
				t.Errorf("NodeOk(%d, %d) = %v", x, y, got)
			}
		}
	}
	for _, n := range nodesNotOnBoard {
		if impl.NodeOk(n) {
			t.Errorf("NodeOk(%v) = true", n)
		}
	}
}

func TestTurnOf(t *testing.T) {
	cases := []struct {
		a, b, c impl.Node
		want    int
	}{
		{impl.Node{}, impl.Node{X: 4}, impl.Node{Y: 3}, 12},
		{impl.Node{}, impl.Node{Y: 3}, impl.Node{X: 4}, -12},
		{impl.Node{}, impl.Node{X: 4}, impl.Node{X: 8}, 0},
		{impl.Node{}, impl.Node{X: 4}, impl.Node{X: 2}, 0},
		{impl.Node{X: 2, Y: 3}, impl.Node{X: 5, Y: 4}, impl.Node{X: 3, Y: 10}, 20},
		{impl.Node{}, impl.Node{X: 20}, impl.Node{X: 20, Y: 20}, 400},
		{impl.Node{}, impl.Node{X: 20, Y: 20}, impl.Node{X: 20}, -400},
		{impl.Node{X: 20, Y: 20}, impl.Node{Y: 20}, impl.Node{X: 20}, 400},
		{impl.Node{X: 7, Y: 7}, impl.Node{X: 7, Y: 7}, impl.Node{X: 1}, 0},
		{impl.Node{X: 7, Y: 7}, impl.Node{X: 1}, impl.Node{X: 7, Y: 7}, 0},
		{impl.Node{X: 1}, impl.Node{X: 7, Y: 7}, impl.Node{X: 7, Y: 7}, 0},
	}
	for _, c := range cases {
		if got := impl.TurnOf(c.a, c.b, c.c); got != c.want {
			t.Errorf("TurnOf(%v, %v, %v) = %d; want %d", c.a, c.b, c.c, got, c.want)
		}
	}
}

func TestTurnsOfAllTriples(t *testing.T) {
	grid := gridOf(6, 4)
	for _, a := range grid {
		for _, b := range grid {
			for _, c := range grid {
				want := a.X*(b.Y-c.Y) + b.X*(c.Y-a.Y) + c.X*(a.Y-b.Y)
				got := impl.TurnOf(a, b, c)
				if got != want || impl.TurnOf(a, c, b) != -want || impl.TurnOf(b, a, c) != -want || impl.TurnOf(c, b, a) != -want || impl.TurnOf(b, c, a) != want {
					t.Fatalf("TurnOf(%v, %v, %v) = %d; want %d, and the opposite from the other side", a, b, c, got, want)
				}
			}
		}
	}
}

func TestNodesNotOnBoardAreRejectedInEachPlace(t *testing.T) {
	a, b, c := impl.Node{X: 1, Y: 1}, impl.Node{X: 9, Y: 1}, impl.Node{X: 1, Y: 9}
	for _, n := range nodesNotOnBoard {
		for _, p := range [][3]impl.Node{{n, b, c}, {a, n, c}, {a, b, n}, {n, n, c}, {n, b, n}, {a, n, n}, {n, n, n}} {
			if got := impl.TurnOf(p[0], p[1], p[2]); got != 0 {
				t.Errorf("TurnOf(%v) = %d; want 0", p, got)
			}
			if impl.IsBetween(p[0], p[1], p[2]) {
				t.Errorf("IsBetween(%v) = true", p)
			}
			if impl.IsBeforeAround(p[0], p[1], p[2]) {
				t.Errorf("IsBeforeAround(%v) = true", p)
			}
		}
		for _, p := range [][2]impl.Node{{n, a}, {a, n}, {n, n}} {
			if got := impl.LengthSquare(p[0], p[1]); got != -1 {
				t.Errorf("LengthSquare(%v) = %d; want -1", p, got)
			}
		}
	}
}

func TestThreeNodesInALineOfWhichOneIsNotOnBoard(t *testing.T) {
	for _, p := range [][3]impl.Node{
		{{X: -1}, {X: 9}, {X: 4}}, {{X: 9}, {X: -1}, {X: 4}},
		{{X: 21}, {X: 9}, {X: 14}}, {{X: 9}, {X: 21}, {X: 14}},
		{{Y: -1}, {Y: 9}, {Y: 4}}, {{Y: 9}, {Y: 21}, {Y: 14}},
		{{X: -2, Y: -2}, {X: 2, Y: 2}, {X: 1, Y: 1}}, {{X: 18, Y: 18}, {X: 22, Y: 22}, {X: 20, Y: 20}},
		{{X: -4}, {X: -2}, {X: -3}}, {{X: 21, Y: 3}, {X: 21, Y: 9}, {X: 21, Y: 5}},
	} {
		if impl.IsBetween(p[0], p[1], p[2]) {
			t.Errorf("IsBetween(%v) = true", p)
		}
	}
	// These would come in this order if the first one were on the board.
	if impl.IsBeforeAround(impl.Node{X: -1}, impl.Node{X: 4}, impl.Node{X: 4, Y: 4}) {
		t.Error("IsBeforeAround goes around a node that is not on the board")
	}
	if impl.IsBeforeAround(impl.Node{}, impl.Node{X: 21}, impl.Node{X: 4, Y: 4}) || impl.IsBeforeAround(impl.Node{}, impl.Node{X: 4}, impl.Node{X: 4, Y: 21}) {
		t.Error("IsBeforeAround orders nodes that are not on the board")
	}
}

func TestIsBetween(t *testing.T) {
	a, b := impl.Node{X: 2, Y: 3}, impl.Node{X: 8, Y: 6}
	cases := []struct {
		c    impl.Node
		want bool
	}{
		{impl.Node{X: 4, Y: 4}, true}, {impl.Node{X: 6, Y: 5}, true},
		{a, false}, {b, false},
		{impl.Node{X: 0, Y: 2}, false}, {impl.Node{X: 10, Y: 7}, false}, {impl.Node{X: 20, Y: 12}, false},
		{impl.Node{X: 5, Y: 4}, false}, {impl.Node{X: 5, Y: 5}, false}, {impl.Node{X: 4, Y: 5}, false},
	}
	for _, c := range cases {
		if got := impl.IsBetween(a, b, c.c); got != c.want {
			t.Errorf("IsBetween(%v, %v, %v) = %v", a, b, c.c, got)
		}
		if got := impl.IsBetween(b, a, c.c); got != c.want {
			t.Errorf("IsBetween(%v, %v, %v) = %v", b, a, c.c, got)
		}
	}
	for _, p := range [][3]impl.Node{{a, a, a}, {a, a, b}, {b, a, a}, {a, b, a}} {
		if impl.IsBetween(p[0], p[1], p[2]) {
			t.Errorf("IsBetween(%v) = true for equal nodes", p)
		}
	}
}

// stepTo returns the least whole step in the direction from a to b, and how
// many of these steps it takes; no step for equal nodes.
func stepTo(a impl.Node, b impl.Node) (impl.Node, int) {
	x, y := b.X-a.X, b.Y-a.Y
	for count := 20; count > 0; count-- {
		if (x != 0 || y != 0) && x%count == 0 && y%count == 0 {
			return impl.Node{X: x / count, Y: y / count}, count
		}
	}
	return impl.Node{}, 0
}

// isPassed finds c among the whole steps on the way from a to b.
func isPassed(a impl.Node, b impl.Node, c impl.Node) bool {
	step, count := stepTo(a, b)
	for i := 1; i < count; i++ {
		if c == (impl.Node{X: a.X + i*step.X, Y: a.Y + i*step.Y}) {
			return true
		}
	}
	return false
}

func TestIsBetweenOfAllTriples(t *testing.T) {
	for _, grid := range [][]impl.Node{gridOf(7, 1), gridOf(6, 4)} {
		for _, a := range grid {
			for _, b := range grid {
				for _, c := range grid {
					if got := impl.IsBetween(a, b, c); got != isPassed(a, b, c) {
						t.Fatalf("IsBetween(%v, %v, %v) = %v", a, b, c, got)
					}
				}
			}
		}
	}
}

func TestLengthSquare(t *testing.T) {
	cases := []struct {
		a, b impl.Node
		want int
	}{
		{impl.Node{}, impl.Node{}, 0}, {impl.Node{X: 20, Y: 20}, impl.Node{X: 20, Y: 20}, 0},
		{impl.Node{X: 4}, impl.Node{Y: 3}, 25}, {impl.Node{X: 1, Y: 2}, impl.Node{X: 6, Y: 14}, 169},
		{impl.Node{X: 5}, impl.Node{X: 2}, 9}, {impl.Node{Y: 2}, impl.Node{Y: 9}, 49},
		{impl.Node{}, impl.Node{X: 20}, 400}, {impl.Node{Y: 20}, impl.Node{}, 400},
		{impl.Node{}, impl.Node{X: 20, Y: 20}, 800}, {impl.Node{X: 20}, impl.Node{Y: 20}, 800},
	}
	for _, c := range cases {
		if got := impl.LengthSquare(c.a, c.b); got != c.want {
			t.Errorf("LengthSquare(%v, %v) = %d; want %d", c.a, c.b, got, c.want)
		}
		if got := impl.LengthSquare(c.b, c.a); got != c.want {
			t.Errorf("LengthSquare(%v, %v) = %d; want %d", c.b, c.a, got, c.want)
		}
	}
}

func TestHalfPlane(t *testing.T) {
	a := impl.Node{X: 5, Y: 5}
	for _, b := range []impl.Node{{X: 6, Y: 5}, {X: 20, Y: 5}, {X: 6, Y: 6}, {X: 5, Y: 6}, {X: 4, Y: 6}, {X: 0, Y: 6}, {X: 20, Y: 6}, {X: 0, Y: 20}} {
		if got := impl.HalfPlane(a, b); got != 0 {
			t.Errorf("HalfPlane(%v, %v) = %d; want 0", a, b, got)
		}
		if got := impl.HalfPlane(b, a); got != 1 {
			t.Errorf("HalfPlane(%v, %v) = %d; want 1", b, a, got)
		}
	}
	if got := impl.HalfPlane(a, a); got != 1 {
		t.Errorf("HalfPlane of equal nodes = %d; want 1", got)
	}
}

func TestHalfPlaneIsDefinedOffTheBoard(t *testing.T) {
	least, greatest := impl.Node{X: leastInt, Y: leastInt}, impl.Node{X: greatestInt, Y: greatestInt}
	cases := []struct {
		a, b impl.Node
		want int
	}{
		{least, greatest, 0}, {greatest, least, 1}, {least, least, 1}, {greatest, greatest, 1},
		{impl.Node{X: leastInt}, impl.Node{X: greatestInt}, 0}, {impl.Node{X: greatestInt}, impl.Node{X: leastInt}, 1},
		{impl.Node{Y: leastInt}, impl.Node{Y: greatestInt}, 0}, {impl.Node{Y: greatestInt}, impl.Node{Y: leastInt}, 1},
		{impl.Node{X: greatestInt}, impl.Node{X: leastInt, Y: 1}, 0}, {impl.Node{X: leastInt, Y: 1}, impl.Node{X: greatestInt}, 1},
		{impl.Node{X: -1}, impl.Node{}, 0}, {impl.Node{}, impl.Node{X: -1}, 1}, {impl.Node{}, impl.Node{Y: 21}, 0}, {impl.Node{Y: 21}, impl.Node{}, 1},
	}
	for _, c := range cases {
		if got := impl.HalfPlane(c.a, c.b); got != c.want {
			t.Errorf("HalfPlane(%v, %v) = %d; want %d", c.a, c.b, got, c.want)
		}
	}
}

func TestDirectionsHaveAnOrder(t *testing.T) {
	a := impl.Node{X: 10, Y: 10}
	ring := []impl.Node{
		{X: 11, Y: 10}, {X: 12, Y: 11}, {X: 11, Y: 11}, {X: 11, Y: 12}, {X: 10, Y: 11}, {X: 9, Y: 12}, {X: 9, Y: 11}, {X: 8, Y: 11},
		{X: 9, Y: 10}, {X: 8, Y: 9}, {X: 9, Y: 9}, {X: 9, Y: 8}, {X: 10, Y: 9}, {X: 11, Y: 8}, {X: 11, Y: 9}, {X: 12, Y: 9},
	}
	for i, b := range ring {
		for j, c := range ring {
			if got := impl.IsBeforeAround(a, b, c); got != (i < j) {
				t.Errorf("IsBeforeAround(%v, %v, %v) = %v", a, b, c, got)
			}
		}
	}
}

// angleOf measures the reduced step, so that equal directions have equal angles.
func angleOf(a impl.Node, b impl.Node) float64 {
	step, _ := stepTo(a, b)
	angle := math.Atan2(float64(step.Y), float64(step.X))
	if angle < 0 {
		angle += 2 * math.Pi
	}
	return angle
}

func TestDirectionsAreOrderedByTheirAngles(t *testing.T) {
	grid := append(gridOf(6, 4), impl.Node{X: 7, Y: 3}, impl.Node{X: 13, Y: 19}, impl.Node{X: 1, Y: 20})
	for _, a := range grid {
		for _, b := range grid {
			for _, c := range grid {
				if b == a || c == a {
					continue
				}
				if got := impl.IsBeforeAround(a, b, c); got != (angleOf(a, b) < angleOf(a, c)) {
					t.Fatalf("IsBeforeAround(%v, %v, %v) = %v", a, b, c, got)
				}
			}
		}
	}
}

func TestNoDirectionBelongsToTheSecondHalf(t *testing.T) {
	a, up, down := impl.Node{X: 5, Y: 5}, impl.Node{X: 5, Y: 9}, impl.Node{X: 5, Y: 1}
	cases := []struct {
		b, c impl.Node
		want bool
	}{
		{up, a, true}, {a, up, false}, {down, a, false}, {a, down, false}, {a, a, false},
	}
	for _, c := range cases {
		if got := impl.IsBeforeAround(a, c.b, c.c); got != c.want {
			t.Errorf("IsBeforeAround(%v, %v, %v) = %v", a, c.b, c.c, got)
		}
	}
}
