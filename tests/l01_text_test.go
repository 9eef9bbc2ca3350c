package tests

import (
	"math"
	"slices"
	"strconv"
	"strings"
	"testing"

	"loop.example/g03303/impl"
)

const greatestInt = math.MaxInt64
const leastInt = math.MinInt64

func TestLimitsOfText(t *testing.T) {
	if impl.MaxInputLen != 20000 || impl.MaxUint != 1000000000 || impl.MaxLineLen != 600 || impl.MaxFieldsPerLine != 24 {
		t.Error("a limit differs from the document")
	}
}

func TestEncodeHex(t *testing.T) {
	cases := []struct{ plain, encoded string }{
		{"", ""},
		{"az", "617a"},
		{"\x00", "00"},
		{"\x0f\xf0", "0ff0"},
		{"\xab\xcd\xef", "abcdef"},
		{"\xff\xfe", "fffe"},
		{"\u00e9\n", "c3a90a"},
	}
	for _, c := range cases {
		if got, ok := impl.EncodeHex(c.plain); !ok || got != c.encoded {
			t.Errorf("EncodeHex(%q) = %q, %v; want %q, true", c.plain, got, ok, c.encoded)
		}
		if got, ok := impl.DecodeHex(c.encoded); !ok || got != c.plain {
			t.Errorf("DecodeHex(%q) = %q, %v; want %q, true", c.encoded, got, ok, c.plain)
		}
	}
}

func TestHexOfEveryByte(t *testing.T) {
	const digits = "0123456789abcdef"
	for b := range 256 {
		plain := string([]byte{byte(b)})
		want := string([]byte{digits[b/16], digits[b%16]})
		if got, ok := impl.EncodeHex(plain); !ok || got != want {
			t.Errorf("EncodeHex of byte %d = %q, %v; want %q, true", b, got, ok, want)
		}
		if got, ok := impl.DecodeHex(want); !ok || got != plain {
			t.Errorf("DecodeHex(%q) = %q, %v; want byte %d, true", want, got, ok, b)
		}
	}
}

func TestHexAtItsLimits(t *testing.T) {
	for _, length := range []int{impl.MaxInputLen - 1, impl.MaxInputLen} {
		plain := strings.Repeat("z", length)
		encoded := strings.Repeat("7a", length)
		if got, ok := impl.EncodeHex(plain); !ok || got != encoded {
			t.Errorf("EncodeHex of %d bytes failed: %d bytes, %v", length, len(got), ok)
		}
		if got, ok := impl.DecodeHex(encoded); !ok || got != plain {
			t.Errorf("DecodeHex to %d bytes failed: %d bytes, %v", length, len(got), ok)
		}
	}
	if got, ok := impl.EncodeHex(strings.Repeat("z", impl.MaxInputLen+1)); ok || got != "" {
		t.Errorf("EncodeHex past its limit = %d bytes, %v", len(got), ok)
	}
	for _, length := range []int{2*impl.MaxInputLen + 1, 2*impl.MaxInputLen + 2} {
		if got, ok := impl.DecodeHex(strings.Repeat("7", length)); ok || got != "" {
			t.Errorf("DecodeHex of %d digits = %d bytes, %v", length, len(got), ok)
		}
	}
}

func TestDecodeHexRejects(t *testing.T) {
	for _, s := range []string{"6", "617", "617a7", "A1", "1A", "aF", "6g", "g6", "0x", " 61", "61 ", "6 1", "-1", "+1", "61\n1", "617a6", "\u00e9"} {
		if got, ok := impl.DecodeHex(s); ok || got != "" {
			t.Errorf("DecodeHex(%q) = %q, %v; want \"\", false", s, got, ok)
		}
	}
	for b := range 256 {
		if strings.IndexByte("0123456789abcdef", byte(b)) >= 0 {
			continue
		}
		wrong := string([]byte{byte(b)})
		for _, s := range []string{wrong + "0", "0" + wrong, "00" + wrong + "0", "0" + wrong + "00"} {
			if got, ok := impl.DecodeHex(s); ok || got != "" {
				t.Errorf("DecodeHex(%q) = %q, %v; want \"\", false", s, got, ok)
			}
		}
	}
}

func TestFormatInt(t *testing.T) {
	cases := []struct {
		n    int
		text string
	}{
		{0, "0"}, {1, "1"}, {-1, "-1"}, {9, "9"}, {10, "10"}, {-10, "-10"}, {100, "100"}, {-5, "-5"}, {1203, "1203"},
		{impl.MaxUint, "1000000000"}, {impl.MaxUint + 1, "1000000001"},
		{greatestInt, "9223372036854775807"}, {leastInt, "-9223372036854775808"}, {leastInt + 1, "-9223372036854775807"},
	}
	for _, c := range cases {
		if got := impl.FormatInt(c.n); got != c.text {
			t.Errorf("FormatInt(%d) = %q; want %q", c.n, got, c.text)
		}
	}
}

func TestParseUintReadsWhatFormatIntWrites(t *testing.T) {
	for n := range 1200 {
		checkParsed(t, n)
	}
	for power := 1; power <= impl.MaxUint; power *= 10 {
		checkParsed(t, power-1)
		checkParsed(t, power)
	}
}

func checkParsed(t *testing.T, n int) {
	t.Helper()
	text := strconv.Itoa(n)
	if got, ok := impl.ParseUint(text); !ok || got != n {
		t.Errorf("ParseUint(%q) = %d, %v; want %d, true", text, got, ok, n)
	}
}

func TestParseUintRejects(t *testing.T) {
	texts := []string{
		"", " ", "-", "+", "a", "1a", "a1", "0x1", "1_0", "1e3", "1.0", "1,0", "\u0661",
		"00", "01", "007", "000", "0000000000", "01000000000", "00000000001",
		"-0", "+0", "-1", "+1", "-01", " 1", "1 ", "1 2", "1\n", "1\x00",
		"1000000001", "1000000010", "9999999999", "10000000000",
		"9223372036854775807", "9223372036854775808", "18446744073709551616", "18446744073709551617", "-9223372036854775808",
		strings.Repeat("9", 100), strings.Repeat("0", 100), strings.Repeat("0", 100) + "1",
	}
	for _, s := range texts {
		if got, ok := impl.ParseUint(s); ok || got != 0 {
			t.Errorf("ParseUint(%q) = %d, %v; want 0, false", s, got, ok)
		}
	}
}

func TestSplitFields(t *testing.T) {
	cases := []struct {
		line   string
		fields []string
	}{
		{"", nil}, {" ", nil}, {"     ", nil},
		{"a", []string{"a"}}, {" a", []string{"a"}}, {"a ", []string{"a"}}, {"  a  ", []string{"a"}},
		{"add 1 2", []string{"add", "1", "2"}},
		{" add  1 ", []string{"add", "1"}},
		{"   swap   10    20   ", []string{"swap", "10", "20"}},
		{"~!\"# ,;-", []string{"~!\"#", ",;-"}},
	}
	for _, c := range cases {
		if got, ok := impl.SplitFields(c.line); !ok || !slices.Equal(got, c.fields) {
			t.Errorf("SplitFields(%q) = %q, %v; want %q, true", c.line, got, ok, c.fields)
		}
	}
}

func TestSplitFieldsOfEveryByte(t *testing.T) {
	for b := range 256 {
		text := string([]byte{byte(b)})
		for _, line := range []string{text, "x" + text, text + "x", "x " + text + " y", "   " + text, text + "   "} {
			got, ok := impl.SplitFields(line)
			if b < 32 || b > 126 {
				if ok || len(got) != 0 {
					t.Errorf("SplitFields(%q) = %q, %v; want nil, false", line, got, ok)
				}
			} else if want := nonEmpty(strings.Split(line, " ")); !ok || !slices.Equal(got, want) {
				t.Errorf("SplitFields(%q) = %q, %v; want %q, true", line, got, ok, want)
			}
		}
	}
}

func nonEmpty(texts []string) []string {
	return slices.DeleteFunc(texts, func(text string) bool { return text == "" })
}

func TestSplitFieldsAtItsLineLimit(t *testing.T) {
	full := strings.Repeat("x", impl.MaxLineLen)
	if got, ok := impl.SplitFields(full); !ok || !slices.Equal(got, []string{full}) {
		t.Errorf("SplitFields rejects a field of MaxLineLen bytes: %d fields, %v", len(got), ok)
	}
	blank := strings.Repeat(" ", impl.MaxLineLen)
	if got, ok := impl.SplitFields(blank); !ok || len(got) != 0 {
		t.Errorf("SplitFields of MaxLineLen spaces = %q, %v", got, ok)
	}
	for _, line := range []string{full + "x", full + " ", " " + full, blank + " ", full[1:] + "\u00e9", strings.Repeat("x ", impl.MaxInputLen)} {
		if got, ok := impl.SplitFields(line); ok || len(got) != 0 {
			t.Errorf("SplitFields of %d bytes = %d fields, %v; want nil, false", len(line), len(got), ok)
		}
	}
}

func TestSplitFieldsAtItsFieldLimit(t *testing.T) {
	for count := range impl.MaxFieldsPerLine + 1 {
		for _, gap := range []string{" ", "   "} {
			line := strings.Repeat(gap+"ab", count)
			want := slices.Repeat([]string{"ab"}, count)
			for _, l := range []string{line, line + gap, strings.TrimLeft(line, " ")} {
				if got, ok := impl.SplitFields(l); !ok || !slices.Equal(got, want) {
					t.Errorf("SplitFields(%q) = %q, %v; want %d fields", l, got, ok, count)
				}
			}
		}
	}
	for _, count := range []int{impl.MaxFieldsPerLine + 1, impl.MaxFieldsPerLine + 2, 300} {
		line := strings.TrimRight(strings.Repeat("a ", count), " ")
		for _, l := range []string{line, line + " ", " " + line} {
			if got, ok := impl.SplitFields(l); ok || len(got) != 0 {
				t.Errorf("SplitFields of %d fields = %d fields, %v; want nil, false", count, len(got), ok)
			}
		}
	}
}

func TestSplitFieldsIsNewEachTime(t *testing.T) {
	first, _ := impl.SplitFields("add 1 2")
	first[0] = "drop"
	if second, ok := impl.SplitFields("add 1 2"); !ok || !slices.Equal(second, []string{"add", "1", "2"}) {
		t.Errorf("SplitFields depends on an earlier result: %q, %v", second, ok)
	}
}

func TestClamp(t *testing.T) {
	cases := []struct{ n, low, high, want int }{
		{9, 1, 5, 5}, {0, 1, 5, 1}, {3, 1, 5, 3}, {1, 1, 5, 1}, {5, 1, 5, 5}, {6, 1, 5, 5},
		{-7, -5, -2, -5}, {-1, -5, -2, -2}, {-3, -5, -2, -3},
		{4, 4, 4, 4}, {3, 4, 4, 4}, {5, 4, 4, 4},
		{0, 5, 1, 5}, {3, 5, 1, 5}, {9, 5, 1, 5}, {5, 5, 1, 5}, {1, 5, 1, 5}, {9, 5, 4, 5},
		{greatestInt, leastInt, greatestInt, greatestInt}, {leastInt, leastInt, greatestInt, leastInt}, {0, leastInt, greatestInt, 0},
		{leastInt, 0, 1, 0}, {greatestInt, 0, 1, 1},
		{0, greatestInt, leastInt, greatestInt}, {leastInt, greatestInt, leastInt, greatestInt},
	}
	for _, c := range cases {
		if got := impl.Clamp(c.n, c.low, c.high); got != c.want {
			t.Errorf("Clamp(%d, %d, %d) = %d; want %d", c.n, c.low, c.high, got, c.want)
		}
	}
}

func TestClampedValuesAreInTheRange(t *testing.T) {
	for n := -6; n <= 6; n++ {
		for low := -4; low <= 4; low++ {
			for high := low; high <= 4; high++ {
				got := impl.Clamp(n, low, high)
				if got < low || got > high || low <= n && n <= high && got != n {
					t.Errorf("Clamp(%d, %d, %d) = %d", n, low, high, got)
				}
			}
			for high := low - 3; high < low; high++ {
				if got := impl.Clamp(n, low, high); got != low {
					t.Errorf("Clamp(%d, %d, %d) = %d; want %d", n, low, high, got, low)
				}
			}
		}
	}
}
