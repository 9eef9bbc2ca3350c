package tests

import (
	"testing"

	"loop.example/g03303/impl"
)

func TestSameWindow(t *testing.T) {
	windows := allWindows()
	for name, w := range invalidWindows() {
		windows[name] = w
	}
	for name, v := range windows {
		for other, w := range windows {
			if got := impl.SameWindow(v, w); got != sameWindow(v, w) {
				t.Errorf("SameWindow of %s and %s = %v", name, other, got)
			}
		}
		if !impl.SameWindow(v, cloneOf(v)) {
			t.Errorf("%s is not the same as its copy", name)
		}
	}
}

func TestSameWindowComparesTheOrder(t *testing.T) {
	w := drawn([]int{0, 0, 8, 0, 0, 8}, 0, 1, 1, 2)
	for _, v := range []impl.Window{
		drawn([]int{0, 0, 8, 0, 0, 8}, 1, 2, 0, 1),
		drawn([]int{8, 0, 0, 0, 0, 8}, 0, 1, 1, 2),
		drawn([]int{0, 0, 8, 0, 0, 8}, 0, 1, 1, 2, 0, 2),
		drawn([]int{0, 0, 8, 0, 0, 8}, 0, 1),
		drawn([]int{0, 0, 8, 0, 0, 8}, 0, 1, 2, 1),
		drawn([]int{0, 0, 8, 0, 0, 7}, 0, 1, 1, 2),
		drawn([]int{0, 0, 8, 0, 0, 8, 9, 9}, 0, 1, 1, 2),
		{},
	} {
		if impl.SameWindow(v, w) || impl.SameWindow(w, v) {
			t.Errorf("SameWindow(%v, %v) = true", v, w)
		}
	}
	if !impl.SameWindow(impl.Window{}, impl.Window{Nodes: []impl.Node{}, Leads: []impl.Lead{}}) {
		t.Error("SameWindow tells nil from an empty slice")
	}
}
