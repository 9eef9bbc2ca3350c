package impl

import (
	"strconv"
	"strings"
)

const (
	MaxInputLen      = 20000
	MaxUint          = 1000000000
	MaxLineLen       = 600
	MaxFieldsPerLine = 24
)

const (
	hexDigits      = "0123456789abcdef"
	firstPrintable = ' '
	lastPrintable  = '~'
)

// EncodeHex writes each byte of s as two lowercase digits, the high half first.
func EncodeHex(s string) (string, bool) {
	if len(s) > MaxInputLen {
		return "", false
	}
	digits := make([]byte, 0, 2*len(s))
	for i := range len(s) {
		digits = append(digits, hexDigits[s[i]>>4], hexDigits[s[i]&15])
	}
	return string(digits), true
}

// DecodeHex finds the string that EncodeHex would write as s.
func DecodeHex(s string) (string, bool) {
	if len(s)%2 != 0 || len(s) > 2*MaxInputLen {
		return "", false
	}
	decoded := make([]byte, 0, len(s)/2)
	for i := 0; i < len(s); i += 2 {
		high := strings.IndexByte(hexDigits, s[i])
		low := strings.IndexByte(hexDigits, s[i+1])
		if high < 0 || low < 0 {
			return "", false
		}
		decoded = append(decoded, byte(high<<4|low))
	}
	return string(decoded), true
}

// FormatInt writes n in decimal.
func FormatInt(n int) string { return strconv.Itoa(n) }

// ParseUint finds the number from 0 to MaxUint that FormatInt would write as s.
func ParseUint(s string) (int, bool) {
	n, err := strconv.Atoi(s)
	if err != nil || n < 0 || n > MaxUint {
		return 0, false
	}
	// Atoi also reads leading zeros and signs, which FormatInt never writes here.
	if FormatInt(n) != s {
		return 0, false
	}
	return n, true
}

// SplitFields cuts a line of printable bytes at its spaces.
func SplitFields(line string) ([]string, bool) {
	if len(line) > MaxLineLen {
		return nil, false
	}
	fields := []string{}
	start, end := 0, 0
scan:
	for ; end < len(line); end++ {
		switch c := line[end]; {
		case c < firstPrintable || c > lastPrintable:
			break scan
		case c == ' ':
			fields = appendField(fields, line[start:end])
			start = end + 1
		}
	}
	if end < len(line) {
		return nil, false
	}
	fields = appendField(fields, line[start:])
	if len(fields) > MaxFieldsPerLine {
		return nil, false
	}
	return fields, true
}

// appendField skips the empty texts between neighboring spaces. It clones the
// field because a result shares no memory with an argument.
func appendField(fields []string, field string) []string {
	if field == "" {
		return fields
	}
	return append(fields, strings.Clone(field))
}

// Clamp moves n into the range low to high; an empty range counts as low alone.
func Clamp(n int, low int, high int) int {
	if n < low || high < low {
		return low
	}
	return min(n, high)
}
