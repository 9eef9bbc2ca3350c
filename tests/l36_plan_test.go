package tests

import (
	"fmt"
	"math/rand"
	"regexp"
	"strings"
	"testing"

	"loop.example/g03303/impl"
)

func TestSameWindow(t *testing.T) {
	windows := allWindows()
	for name, w := range invalidWindows() {
		windows[name] = w
	}
	for name, v := range windows {
		for other, w := range windows {
			if got := impl.SameWindow(v, w); got != sameWindow(v, w) {
				t.Errorf("SameWindow of %s and %s = %v", name, other, got)
			}
		}
		if !impl.SameWindow(v, cloneOf(v)) {
			t.Errorf("%s is not the same as its copy", name)
		}
	}
}

func TestSameWindowComparesTheOrder(t *testing.T) {
	w := drawn([]int{0, 0, 8, 0, 0, 8}, 0, 1, 1, 2)
	for _, v := range []impl.Window{
		drawn([]int{0, 0, 8, 0, 0, 8}, 1, 2, 0, 1),
		drawn([]int{8, 0, 0, 0, 0, 8}, 0, 1, 1, 2),
		drawn([]int{0, 0, 8, 0, 0, 8}, 0, 1, 1, 2, 0, 2),
		drawn([]int{0, 0, 8, 0, 0, 8}, 0, 1),
		drawn([]int{0, 0, 8, 0, 0, 8}, 0, 1, 2, 1),
		drawn([]int{0, 0, 8, 0, 0, 7}, 0, 1, 1, 2),
		drawn([]int{0, 0, 8, 0, 0, 8, 9, 9}, 0, 1, 1, 2),
		{},
	} {
		if impl.SameWindow(v, w) || impl.SameWindow(w, v) {
			t.Errorf("SameWindow(%v, %v) = true", v, w)
		}
	}
	if !impl.SameWindow(impl.Window{}, impl.Window{Nodes: []impl.Node{}, Leads: []impl.Lead{}}) {
		t.Error("SameWindow tells nil from an empty slice")
	}
}

// textByHand writes any window, valid or not.
func textByHand(w impl.Window) string {
	text := ""
	for _, n := range w.Nodes {
		text += fmt.Sprintf("%d,%d ", n.X, n.Y)
	}
	text += "|"
	for _, l := range w.Leads {
		text += fmt.Sprintf(" %d-%d", l.From, l.To)
	}
	return text
}

// readByPattern reads a text that has the form of a window with small numbers.
func readByPattern(text string) (impl.Window, bool) {
	number := `(0|[1-9][0-9]?)`
	form := regexp.MustCompile(`^(` + number + `,` + number + ` )+\|( ` + number + `-` + number + `)*$`)
	if !form.MatchString(text) {
		return impl.Window{}, false
	}
	w := impl.Window{}
	for _, word := range strings.Fields(text) {
		one, other := 0, 0
		if n, _ := fmt.Sscanf(word, "%d,%d", &one, &other); n == 2 {
			w.Nodes = append(w.Nodes, impl.Node{X: one, Y: other})
		} else if n, _ := fmt.Sscanf(word, "%d-%d", &one, &other); n == 2 {
			w.Leads = append(w.Leads, impl.Lead{From: one, To: other})
		}
	}
	if !isPlane(w) {
		return impl.Window{}, false
	}
	return w, true
}

func checkRead(t *testing.T, name string, text string) {
	t.Helper()
	want, isWindow := readByPattern(text)
	got, ok := impl.ReadWindow(text)
	if ok != isWindow || !sameWindow(got, want) {
		t.Errorf("%s: ReadWindow(%q) = %v, %v; want %v, %v", name, text, got, ok, want, isWindow)
	}
}

func TestNodeText(t *testing.T) {
	for _, c := range []struct {
		n    impl.Node
		want string
	}{
		{impl.Node{}, "0,0"}, {impl.Node{X: 20, Y: 20}, "20,20"}, {impl.Node{X: 4}, "4,0"}, {impl.Node{Y: 10}, "0,10"},
	} {
		if got := impl.NodeText(c.n); got != c.want {
			t.Errorf("NodeText(%v) = %q; want %q", c.n, got, c.want)
		}
	}
	for _, n := range gridOf(21, 1) {
		if got := impl.NodeText(n); got != fmt.Sprintf("%d,%d", n.X, n.Y) {
			t.Errorf("NodeText(%v) = %q", n, got)
		}
	}
	for _, n := range nodesNotOnBoard {
		if got := impl.NodeText(n); got != "" {
			t.Errorf("NodeText(%v) = %q; want an empty text", n, got)
		}
	}
}

func TestWindowTextByHand(t *testing.T) {
	cases := map[string]string{
		"sample":   "0,0 8,0 8,8 0,8 4,4 | 0-1 1-2 2-3 0-3 0-4 1-4 2-4 3-4",
		"one lead": "0,0 20,20 | 0-1",
		"one node": "20,20 |",
		"no leads": "0,0 20,0 0,20 |",
		"cross":    "10,10 20,10 10,20 0,10 10,0 20,20 | 0-3 0-1 0-4 0-2",
	}
	for name, want := range cases {
		w := allWindows()[name]
		if got := impl.WindowText(w); got != want {
			t.Errorf("%s: WindowText = %q; want %q", name, got, want)
		}
		if got, ok := impl.ReadWindow(want); !ok || !sameWindow(got, w) {
			t.Errorf("%s: ReadWindow = %v, %v", name, got, ok)
		}
	}
}

func TestAWindowCanBeReadBackFromItsText(t *testing.T) {
	windows := allWindows()
	source := rand.New(rand.NewSource(36))
	for i := range 150 {
		windows["random "+impl.FormatInt(i)] = randomWindow(source)
	}
	for name, w := range byName(windows) {
		text := textByHand(w)
		if !isPlane(w) {
			text = ""
		}
		if got := impl.WindowText(w); got != text {
			t.Errorf("%s: WindowText = %q; want %q", name, got, text)
		}
		checkRead(t, name, textByHand(w))
		if got, ok := impl.ReadWindow(textByHand(w)); ok != isPlane(w) || ok && impl.WindowText(got) != text {
			t.Errorf("%s: ReadWindow(%q) = %v, %v", name, text, got, ok)
		}
	}
}

func TestTextsOfWindowsThatAreNotValid(t *testing.T) {
	for name, w := range byName(invalidWindows()) {
		if got := impl.WindowText(w); got != "" {
			t.Errorf("%s: WindowText = %q; want an empty text", name, got)
		}
		if got, ok := impl.ReadWindow(textByHand(w)); ok || !sameWindow(got, impl.Window{}) {
			t.Errorf("%s: ReadWindow(%q) = %v, %v", name, textByHand(w), got, ok)
		}
	}
}

func TestTextsThatAreNoWindows(t *testing.T) {
	texts := []string{
		"", " ", "|", " |", "| ", "0", "0,0", "0,0 ", "0,0 8,0", "0,0 8,0 ", "0,0 8,0 0-1",
		"0,0|", "0,0 8,0| 0-1", "0,0 8,0 |0-1", "0,0 8,0 | 0-1 ", " 0,0 8,0 | 0-1", "0,0 8,0 |  0-1", "0,0  8,0 | 0-1", "0,0 8,0  | 0-1",
		"0,0 8,0 | 0-1\n", "0,0\t8,0 | 0-1", "\n0,0 8,0 | 0-1", "0,0 8,0 | 0-1\x00", "0,0 8,0\r | 0-1",
		"0,0 8,0 | 0-1 | ", "0,0 8,0 || 0-1", "0,0 8,0 | | 0-1", "| 0,0 8,0 | 0-1", "0,0 | 8,0 | 0-1", "0,0 8,0 | |", "0,0 | |", "0,0 8,0 | 0-1|",
		"00,0 8,0 | 0-1", "0,0 08,0 | 0-1", "0,0 8,00 | 0-1", "0,0 8,0 | 00-1", "0,0 8,0 | 0-01",
		"+0,0 8,0 | 0-1", "0,+0 8,0 | 0-1", "-0,0 8,0 | 0-1", "0,0 -8,0 | 0-1", "0,0 8,0 | +0-1", "0,0 8,0 | 0-+1", "0,0 8,0 | 0--1", "0,0 8,0 | -0-1", "0,0 8,-1 |",
		"21,0 8,0 | 0-1", "0,0 0,21 | 0-1", "0,0 8,100 | 0-1", "0,0 8,0 | 0-2", "0,0 8,0 | 1-0", "0,0 8,0 | 1-1", "0,0 8,0 | 0-1 0-1", "0,0 0,0 |",
		"18446744073709551616,0 8,0 | 0-1", "0,0 18446744073709551624,0 | 0-1", "0,0 8,0 | 0-18446744073709551617", "0,0 8,0 | 18446744073709551616-1",
		"0,0 9223372036854775808,0 |", "4294967296,0 |", "0,0 8 | 0-1", "0 0,8 0 | 0-1", "0,0 8,0,4 | 0-1", "0,0 8,0 4 | 0-1", "0,0 8,0 | 0-1 1", "0,0 8,0 | 0-1-2", "0,0 8,0 | 0 1",
		"0;0 8;0 | 0-1", "0.0 8.0 | 0-1", "0-0 8-0 | 0-1", "0,0 8,0 | 0,1", "0,0 8,0 / 0-1", "0,0 8,0 ¦ 0-1", "0,0 8,0 \xff 0-1", "0,0\u00a08,0 | 0-1", "٠,0 8,0 | 0-1", "0,0 8,0 | 0–1",
		"0,0 8,0 | 0-1\xff", "\xef\xbb\xbf0,0 8,0 | 0-1", "0,0 \xc38,0 | 0-1", "0x0,0 8,0 | 0-1", "a,b |", "1e1,0 |", "0,0 8,0 | 0-1 x", "1_0,0 |", "２,0 |",
		"(0,0) (8,0) | 0-1", "0,0, 8,0 | 0-1", "0,0 8,0 |\n0-1",
	}
	for _, text := range texts {
		if got, ok := impl.ReadWindow(text); ok || !sameWindow(got, impl.Window{}) {
			t.Errorf("ReadWindow(%q) = %v, %v; want the zero Window and false", text, got, ok)
		}
		checkRead(t, "no window", text)
	}
	long := strings.Repeat("0,0 ", 100000) + "|" + strings.Repeat(" 0-1", 100000)
	for _, text := range []string{long, strings.Repeat("7", 100000), strings.Repeat("|", 100000), strings.Repeat("1,1 |", 50000)} {
		if _, ok := impl.ReadWindow(text); ok {
			t.Errorf("ReadWindow of a text of %d bytes = true", len(text))
		}
	}
}

// edited puts a byte into a text, takes one away, or replaces one.
func edited(source *rand.Rand, text string) string {
	bytes := "0123456789 ,-|+x\xe9"
	at := source.Intn(len(text))
	put := string(bytes[source.Intn(len(bytes))])
	switch source.Intn(3) {
	case 0:
		return text[:at] + put + text[at:]
	case 1:
		return text[:at] + text[at+1:]
	}
	return text[:at] + put + text[at+1:]
}

func TestEditedTexts(t *testing.T) {
	source := rand.New(rand.NewSource(360))
	for name, w := range byName(allWindows()) {
		text := textByHand(w)
		for range 60 {
			checkRead(t, name, edited(source, text))
		}
		for i := range text {
			checkRead(t, name, text[:i])
			checkRead(t, name, text[:i]+" "+text[i:])
			checkRead(t, name, text[:i]+"0"+text[i:])
		}
	}
}

func TestFaceText(t *testing.T) {
	whole := wholeWindows()
	cases := []struct {
		window string
		f      int
		want   string
	}{
		{"sample", 0, "0-1-4"}, {"sample", 1, "1-0-3-2"}, {"sample", 4, "3-0-4"}, {"sample", 5, ""}, {"sample", -1, ""}, {"one lead", 0, "0-1"}, {"inner spike", 0, "0-1-2-0-3"},
	}
	for _, c := range cases {
		if got := impl.FaceText(whole[c.window], c.f); got != c.want {
			t.Errorf("%s: FaceText(%d) = %q; want %q", c.window, c.f, got, c.want)
		}
	}
	for name, w := range byName(someWholeWindows(361, 60)) {
		faces := facesByAngle(w)
		for f, walk := range faces {
			if got, want := impl.FaceText(w, f), textOfNodes(nodesAlong(w, walk)); got != want {
				t.Errorf("%s: FaceText(%d) = %q; want %q", name, f, got, want)
			}
		}
		for _, f := range wrongIndices(len(faces)) {
			if got := impl.FaceText(w, f); got != "" {
				t.Errorf("%s: FaceText(%d) = %q; want an empty text", name, f, got)
			}
		}
	}
	for name, w := range byName(notWholeWindows()) {
		for f := -1; f <= 3; f++ {
			if got := impl.FaceText(w, f); got != "" {
				t.Errorf("%s: FaceText(%d) = %q; want an empty text", name, f, got)
			}
		}
	}
}

func textOfNodes(nodes []int) string {
	return strings.ReplaceAll(strings.Trim(fmt.Sprint(nodes), "[]"), " ", "-")
}

func TestPlansLeaveArgumentsAsTheyAre(t *testing.T) {
	for name, w := range byName(allWindows()) {
		roomy, isUntouched := roomyWindow(w)
		text := impl.WindowText(roomy)
		checkFreshWindow(t, name+", ReadWindow", func() impl.Window {
			read, _ := impl.ReadWindow(text)
			return read
		})
		impl.SameWindow(roomy, roomy)
		impl.FaceText(roomy, 0)
		if !isUntouched() {
			t.Errorf("%s: the window is modified", name)
		}
	}
}
