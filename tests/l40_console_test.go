package tests

import (
	"fmt"
	"iter"
	"math/rand"
	"slices"
	"strings"
	"testing"

	"loop.example/g03303/impl"
)

// wordByHand returns the word of an act and how many numbers follow it.
func wordByHand(kind int) (string, int) {
	switch kind {
	case impl.AcAdd:
		return "add", 2
	case impl.AcDrop:
		return "drop", 1
	case impl.AcJoin:
		return "join", 1
	case impl.AcUndo:
		return "undo", 0
	case impl.AcColor:
		return "color", 1
	case impl.AcSwap:
		return "swap", 2
	case impl.AcStore:
		return "store", 2
	case impl.AcFetch:
		return "fetch", 1
	}
	return "panes", 0
}

func lineByHand(a impl.Act) string {
	word, count := wordByHand(a.Kind)
	return strings.Join([]string{word, fmt.Sprint(a.A), fmt.Sprint(a.B)}[:1+count], " ")
}

// fineActs are all that are valid.
func fineActs() iter.Seq[impl.Act] {
	return func(yield func(a impl.Act) bool) {
		for kind := impl.AcAdd; kind <= impl.AcPanes; kind++ {
			for a := range 41 {
				for b := range 51 {
					if act := actOf(kind, a, b); isActFine(act) && !yield(act) {
						return
					}
				}
			}
		}
	}
}

// parsedByHand looks a line up among the lines of all valid acts.
func parsedByHand(acts map[string]impl.Act, line string) (impl.Act, bool) {
	isNotAllowed := func(c rune) bool { return c < ' ' || c > '~' }
	act, ok := acts[strings.Join(nonEmpty(strings.Split(line, " ")), " ")]
	if len(line) > 600 || strings.ContainsFunc(line, isNotAllowed) || !ok {
		return impl.Act{}, false
	}
	return act, true
}

func actsByLine() map[string]impl.Act {
	acts := map[string]impl.Act{}
	for a := range fineActs() {
		acts[lineByHand(a)] = a
	}
	return acts
}

// scriptByHand runs a script line by line.
func scriptByHand(acts map[string]impl.Act, text string) ([]string, bool) {
	list := []impl.Act{}
	for _, line := range strings.Split(text, "\n") {
		if len(line) <= 600 && strings.Trim(line, " ") == "" {
			continue
		}
		a, ok := parsedByHand(acts, line)
		if !ok {
			return nil, false
		}
		list = append(list, a)
	}
	if len(text) > 20000 || len(list) > 40 {
		return nil, false
	}
	s, numbers := runByHand(impl.SampleStudio(), list)
	lines := []string{}
	for _, n := range numbers {
		lines = append(lines, fmt.Sprint(n))
	}
	return append(lines, formatByHand(s)...), true
}

// sampleLines are those of the sample studio.
func sampleLines() []string { return formatByHand(impl.SampleStudio()) }

// linesNotOk are no acts, and none of them is ignored.
func linesNotOk() []string {
	lines := []string{
		"add", "add 1", "add 1 2 3", "drop", "drop 1 2", "join", "join 1 2", "undo 0", "undo 1", "color", "color 3 0",
		"swap 1", "swap", "swap 1 2 3", "store 1", "store", "store 1 2 3", "fetch", "fetch 1 1", "panes 0", "panes 1 2", "undo 0 0",
		"add 1 2 3 4", "drop 1 2 3 4 5", "panes panes", "undo undo", "drop 1 drop 2",
		"add 41 0", "add 0 41", "drop 41", "join 41", "color 41", "swap 41 0", "swap 0 41", "store 41 1", "store 0 0", "store 0 51", "fetch 41",
		"add -1 0", "add 0 -1", "drop -1", "fetch -0", "color +3", "add +1 2", "store 1 +2", "add 1 - 2", "drop -",
		"add 01 2", "add 1 02", "drop 00", "drop 007", "store 0 01", "color 3.0", "color 3,", "add 1,2", "add 1;2", "fetch 0x1", "fetch 1e1", "swap 1_0 2",
		"drop 1000000000", "drop 1000000001", "drop 9223372036854775808", "drop 18446744073709551616", "drop 18446744073709551617", "drop " + strings.Repeat("9", 500),
		"ADD 1 2", "Add 1 2", "dropp 1", "dro 1", "d 1", "paint 1", "remove 1", "1 2", "1", "0", "-", "add1 2", "add12", "panes.", "panes;", "# panes", "undo#",
		"AcAdd 1 2", "1 add 2", "2 1 add", "store a b", "color three", "add add add", "fetch fetch", "10", "9 0 0", "/undo", "undo\"", "\"undo\"", "''", "~", "!",
		"undo" + strings.Repeat(" ", 597), strings.Repeat(" ", 601), strings.Repeat(" ", 597) + "undo", strings.Repeat("x ", 25), strings.Repeat("x", 600), strings.Repeat("x", 601),
	}
	for _, c := range []string{"\t", "\r", "\x00", "\x7f", "\x80", "\xff", "\x1f", "\v", "\u00a0", "\u2003", "é", "\u0661"} {
		lines = append(lines, "undo"+c, c+"undo", "add 1"+c+"2", "add 1 2"+c, c, "panes "+c, " "+c+" ", "drop "+c)
	}
	return lines
}

func TestFormatAct(t *testing.T) {
	count := 0
	for a := range fineActs() {
		if got, ok := impl.FormatAct(a); !ok || got != lineByHand(a) {
			t.Errorf("FormatAct(%v) = %q, %v; want %q", a, got, ok, lineByHand(a))
		}
		count++
	}
	if count != 2*41*41+41*50+4*41+2 {
		t.Errorf("there are %d valid acts", count)
	}
	for _, a := range actsNotOk() {
		if got, ok := impl.FormatAct(a); ok || got != "" {
			t.Errorf("FormatAct(%v) = %q, %v", a, got, ok)
		}
	}
	for _, c := range []struct {
		a    impl.Act
		want string
	}{
		{actOf(1, 0, 40), "add 0 40"}, {actOf(2, 5, 0), "drop 5"}, {actOf(3, 10, 0), "join 10"}, {actOf(4, 0, 0), "undo"}, {actOf(5, 0, 0), "color 0"},
		{actOf(6, 3, 2), "swap 3 2"}, {actOf(7, 40, 50), "store 40 50"}, {actOf(8, 1, 0), "fetch 1"}, {actOf(9, 0, 0), "panes"},
	} {
		if got, ok := impl.FormatAct(c.a); !ok || got != c.want {
			t.Errorf("FormatAct(%v) = %q, %v; want %q", c.a, got, ok, c.want)
		}
	}
}

func TestActsCanBeParsedFromTheirText(t *testing.T) {
	for a := range fineActs() {
		line := lineByHand(a)
		for _, text := range []string{line, " " + line, line + "  ", "   " + strings.ReplaceAll(line, " ", "    ") + " "} {
			if got, ok := impl.ParseAct(text); !ok || got != a {
				t.Errorf("ParseAct(%q) = %v, %v; want %v", text, got, ok, a)
			}
		}
	}
	full := "add" + strings.Repeat(" ", 594) + "1 2"
	if got, ok := impl.ParseAct(full); !ok || got != actOf(impl.AcAdd, 1, 2) || len(full) != 600 {
		t.Errorf("ParseAct of a line of %d bytes = %v, %v", len(full), got, ok)
	}
}

func TestLinesThatAreNoActs(t *testing.T) {
	for _, line := range append(linesNotOk(), "", " ", strings.Repeat(" ", 600), "\n", "undo\n", "\nundo", "undo\nundo") {
		if got, ok := impl.ParseAct(line); ok || got != (impl.Act{}) {
			t.Errorf("ParseAct(%q) = %v, %v; want the zero Act and false", line, got, ok)
		}
	}
}

func TestEditedLines(t *testing.T) {
	source := rand.New(rand.NewSource(40))
	acts := actsByLine()
	read := 0
	for range 6000 {
		line := lineByHand(actOf(1+source.Intn(9), source.Intn(41), source.Intn(51)))
		for range 1 + source.Intn(2) {
			line = edited(source, line)
		}
		want, isAct := parsedByHand(acts, line)
		if got, ok := impl.ParseAct(line); ok != isAct || got != want {
			t.Errorf("ParseAct(%q) = %v, %v; want %v, %v", line, got, ok, want, isAct)
		}
		if isAct {
			read++
		}
	}
	if read < 300 {
		t.Errorf("only %d lines were acts", read)
	}
}

func TestScriptsByHand(t *testing.T) {
	plan := sampleLines()[0]
	cases := []struct {
		name, text string
		want       []string
	}{
		{"empty", "", sampleLines()},
		{"a newline alone", "\n", sampleLines()},
		{"empty lines", "\n\n\n", sampleLines()},
		{"spaces alone", "   ", sampleLines()},
		{"lines of spaces alone", " \n  \n\n   \n", sampleLines()},
		{"a line of 600 spaces", strings.Repeat(" ", 600) + "\n", sampleLines()},
		{"without a last newline", "panes", append([]string{"4"}, sampleLines()...)},
		{"with a last newline", "panes\n", append([]string{"4"}, sampleLines()...)},
		{"with spaces behind it", "panes\n  ", append([]string{"4"}, sampleLines()...)},
		{"empty lines between", "\npanes\n\n \nundo\n\n", append([]string{"4", "0"}, sampleLines()...)},
		{"several spaces", "  store   0    2 \n  fetch  4", append([]string{"1", "1"}, sampleLines()...)},
		{"steps", "drop 7\ndrop 0\nundo\npanes\n", []string{"1", "1", "1", "3", "0,0 8,0 8,8 0,8 4,4 | 0-1 1-2 2-3 0-3 0-4 1-4 2-4", "colors", "stored", "steps 1", "fund 180"}},
		{"colors and panes", "color 4\nswap 0 3\nstore 4 7\nstore 0 1\n", []string{"1", "1", "1", "1", plan, "colors 3 1 2 0 2", "stored 4 2", "steps 0", "fund 200"}},
		{"join", "drop 4\ndrop 5\njoin 4", []string{"1", "1", "1", "0,0 8,0 8,8 0,8 | 0-1 1-2 2-3 0-3 1-3", "colors", "stored", "steps 3", "fund 170"}},
	}
	for _, c := range cases {
		if got, ok := impl.RunScript(c.text); !ok || !slices.Equal(got, c.want) {
			t.Errorf("%s: RunScript = %q, %v; want %q", c.name, got, ok, c.want)
		}
	}
}

func checkNoScript(t *testing.T, name string, text string) {
	t.Helper()
	if got, ok := impl.RunScript(text); ok || len(got) != 0 {
		t.Errorf("%s: RunScript = %q, %v; want nil, false", name, got, ok)
	}
}

func TestScriptsThatCannotBeRead(t *testing.T) {
	for _, line := range linesNotOk() {
		for _, text := range []string{line, line + "\n", "panes\n" + line, line + "\npanes\n", "undo\n\n" + line + "\n\nundo"} {
			checkNoScript(t, fmt.Sprintf("a line %q", line), text)
		}
	}
	checkNoScript(t, "two lines of a Windows text", "panes\r\nundo\r\n")
	checkNoScript(t, "an old Macintosh text", "panes\rundo\r")
	checkNoScript(t, "two acts in a line", "panes undo\n")
	checkNoScript(t, "an act in two lines", "add\n1 2\n")
}

func TestLimitsOfScripts(t *testing.T) {
	forty := strings.Repeat("panes\n", 40)
	want := append(slices.Repeat([]string{"4"}, 40), sampleLines()...)
	for _, text := range []string{forty, forty + " \n\n", "\n" + forty[:len(forty)-1]} {
		if got, ok := impl.RunScript(text); !ok || !slices.Equal(got, want) {
			t.Errorf("RunScript of 40 acts = %q, %v", got, ok)
		}
	}
	checkNoScript(t, "41 acts", forty+"panes")
	checkNoScript(t, "41 acts and a newline", forty+"panes\n")
	checkNoScript(t, "500 acts", strings.Repeat("undo\n", 500))

	blank := strings.Repeat(strings.Repeat(" ", 99)+"\n", 200)
	for _, text := range []string{blank, strings.Repeat("\n", 20000), blank[:len(blank)-5] + "panes", "panes" + blank[5:], blank[1:]} {
		wantLines, _ := scriptByHand(actsByLine(), text)
		if got, ok := impl.RunScript(text); !ok || !slices.Equal(got, wantLines) || len(text) > 20000 {
			t.Errorf("RunScript of %d bytes = %q, %v", len(text), got, ok)
		}
	}
	for _, text := range []string{blank + "\n", blank + " ", strings.Repeat("\n", 20001), "panes\n" + blank[5:], strings.Repeat(blank, 20)} {
		checkNoScript(t, fmt.Sprintf("%d bytes", len(text)), text)
	}
}

func TestScriptText(t *testing.T) {
	for _, count := range []int{0, 1, 2, 39, 40} {
		acts := slices.Repeat([]impl.Act{actOf(impl.AcStore, 2, 1)}, count)
		if got, ok := impl.ScriptText(acts); !ok || got != strings.Repeat("store 2 1\n", count) {
			t.Errorf("ScriptText of %d acts = %q, %v", count, got, ok)
		}
	}
	for _, count := range []int{41, 42, 1000} {
		if got, ok := impl.ScriptText(slices.Repeat([]impl.Act{actOf(impl.AcUndo, 0, 0)}, count)); ok || got != "" {
			t.Errorf("ScriptText of %d acts = %q, %v", count, got, ok)
		}
	}
	fine := []impl.Act{actOf(impl.AcAdd, 1, 2), actOf(impl.AcUndo, 0, 0), actOf(impl.AcColor, 3, 0)}
	if got, ok := impl.ScriptText(fine); !ok || got != "add 1 2\nundo\ncolor 3\n" {
		t.Errorf("ScriptText = %q, %v", got, ok)
	}
	for _, wrong := range actsNotOk() {
		for i := range fine {
			if got, ok := impl.ScriptText(changed(fine, i, wrong)); ok || got != "" {
				t.Errorf("ScriptText with %v = %q, %v", wrong, got, ok)
			}
		}
	}
}

// randomScript returns up to 40 valid acts, of which many are possible.
func randomScript(source *rand.Rand) []impl.Act {
	acts := []impl.Act{}
	s := impl.SampleStudio()
	for range source.Intn(41) {
		a := randomAct(source, s)
		if isActFine(a) {
			s, _ = actByHand(s, a)
			acts = append(acts, a)
		}
	}
	return acts
}

func TestScriptsCanBeRun(t *testing.T) {
	source := rand.New(rand.NewSource(400))
	lines := actsByLine()
	for range 60 {
		acts := randomScript(source)
		text, ok := impl.ScriptText(acts)
		want, isScript := scriptByHand(lines, text)
		if !ok || !isScript {
			t.Errorf("ScriptText(%v) = %q, %v", acts, text, ok)
		}
		spaced := strings.ReplaceAll(strings.ReplaceAll(text, " ", "  "), "\n", " \n\n ")
		for _, script := range []string{text, strings.TrimSuffix(text, "\n"), "\n" + text + "\n", spaced} {
			if got, ok := impl.RunScript(script); !ok || !slices.Equal(got, want) {
				t.Errorf("RunScript(%q) = %q, %v; want %q", script, got, ok, want)
			}
		}
		s, numbers := impl.RunActs(impl.SampleStudio(), acts)
		if !slices.Equal(want[len(acts):], impl.FormatStudio(s)) || len(numbers) != len(acts) {
			t.Errorf("RunActs(%v) makes another studio than the script %q", acts, text)
		}
	}
}

func TestEditedScripts(t *testing.T) {
	source := rand.New(rand.NewSource(401))
	lines := actsByLine()
	for range 300 {
		text, _ := impl.ScriptText(randomScript(source))
		text = edited(source, text+"\n")
		want, isScript := scriptByHand(lines, text)
		if got, ok := impl.RunScript(text); ok != isScript || !slices.Equal(got, want) {
			t.Errorf("RunScript(%q) = %q, %v; want %q, %v", text, got, ok, want, isScript)
		}
	}
}

func TestScriptsLeaveArgumentsAsTheyAre(t *testing.T) {
	acts, areUntouched := roomyOf([]impl.Act{actOf(impl.AcDrop, 7, 0), actOf(impl.AcColor, 3, 0)}, actOf(impl.AcUndo, 0, 0), impl.Act{})
	text, ok := impl.ScriptText(acts)
	if !ok || text != "drop 7\ncolor 3\n" || !areUntouched() {
		t.Errorf("ScriptText = %q, %v, or the acts are modified", text, ok)
	}
	for _, script := range []string{"", text, "store 0 1\nfetch 4\n"} {
		checkFreshOf(t, "RunScript", "x", func() []string {
			lines, _ := impl.RunScript(script)
			return lines
		})
	}
}
