package digits

import (
	"math"
	"strconv"
	"strings"
	"testing"

	"turntable/api"
)

// numbers are both ends of the 64 bit numbers, nought, and what stands around each power of ten and of two.
func numbers() []int64 {
	list := []int64{0, math.MinInt64, math.MaxInt64}
	around := func(n int64) {
		for d := int64(-2); d <= 2; d++ {
			list = append(list, n+d, -(n + d))
		}
	}
	for n := int64(1); ; n *= 10 {
		around(n)
		if n > math.MaxInt64/10 {
			break
		}
	}
	for bit := range 64 {
		around(1 << bit)
	}
	for n := int64(-1000); n <= 1000; n++ {
		list = append(list, n)
	}
	return list
}

// TestPrint: promise 1.1.
func TestPrint(t *testing.T) {
	rows := []struct {
		n    int64
		want string
	}{
		{0, "0"},
		{1, "1"},
		{-1, "-1"},
		{9, "9"},
		{10, "10"},
		{-10, "-10"},
		{-120, "-120"},
		{1002003, "1002003"},
		{math.MaxInt64, "9223372036854775807"},
		{math.MinInt64, "-9223372036854775808"},
		{math.MinInt64 + 1, "-9223372036854775807"},
	}
	for _, r := range rows {
		if got := Print(r.n); got != r.want {
			t.Errorf("Print(%d) = %q, want %q", r.n, got, r.want)
		}
	}
}

// TestSmall: promise 1.1, of numbers below nought, too.
func TestSmall(t *testing.T) {
	rows := []struct {
		n    int
		want string
	}{
		{0, "0"},
		{7, "7"},
		{100, "100"},
		{-1, "-1"},
		{-305, "-305"},
		{api.MaxValue, "1048576"},
		{math.MaxInt, strconv.Itoa(math.MaxInt)},
		{math.MinInt, strconv.Itoa(math.MinInt)},
	}
	for _, r := range rows {
		if got := Small(r.n); got != r.want {
			t.Errorf("Small(%d) = %q, want %q", r.n, got, r.want)
		}
	}
}

// TestParse: promise 1.2, what is a number, and what is just beyond.
func TestParse(t *testing.T) {
	rows := []struct {
		s    string
		want int64
		code api.Code
	}{
		{"0", 0, api.OK},
		{"7", 7, api.OK},
		{"-7", -7, api.OK},
		{"10", 10, api.OK},
		{"-100", -100, api.OK},
		{"9223372036854775807", math.MaxInt64, api.OK},
		{"-9223372036854775808", math.MinInt64, api.OK},
		{"-9223372036854775807", math.MinInt64 + 1, api.OK},
		{"9223372036854775800", math.MaxInt64 - 7, api.OK},
		{"9223372036854775808", 0, api.ErrRange},
		{"9223372036854775810", 0, api.ErrRange},
		{"-9223372036854775809", 0, api.ErrRange},
		{"-9223372036854775810", 0, api.ErrRange},
		{"9999999999999999999", 0, api.ErrRange},
		{"10000000000000000000", 0, api.ErrRange},
		{"-10000000000000000000", 0, api.ErrRange},
		{"18446744073709551615", 0, api.ErrRange},
		{"18446744073709551616", 0, api.ErrRange},
		{"18446744073709551617", 0, api.ErrRange},
		{"-18446744073709551616", 0, api.ErrRange},
		{"184467440737095516160", 0, api.ErrRange},
		{"1" + strings.Repeat("0", 70000), 0, api.ErrRange},
		{"-" + strings.Repeat("9", 70000), 0, api.ErrRange},
	}
	for _, r := range rows {
		if got, code := Parse(r.s); got != r.want || code != r.code {
			t.Errorf("Parse(%.40q) = %d, %d, want %d, %d", r.s, got, code, r.want, r.code)
		}
	}
}

// TestParseNoNumber: promise 1.2, ErrNumber, also where a number would be too far (P0: the code that is named first).
func TestParseNoNumber(t *testing.T) {
	texts := []string{
		"", "-", "--", "--1", "-0", "-00", "-01", "00", "01", "007", "000000000000000000000",
		"+1", "+", "+0", " 1", "1 ", "1\n", "-\x001", "1-", "1-2", "- 1", "1_000", "1,000", "1.0", "1e3",
		"0x1f", "a", "12a", "-a", "/", ":", "1/", "1:", "\x00", "1\x00", "\xff", "1\xb1",
		"\u0661", "1\u0662", "\uff11", "\u22121",
		"9223372036854775808x", "-9223372036854775809-", "99999999999999999999 ", "99999999999999999999x9",
		"09223372036854775808", "-09223372036854775809", "00000000000000000001",
		strings.Repeat("9", 70000) + "/", "0" + strings.Repeat("9", 70000),
	}
	for _, s := range texts {
		if got, code := Parse(s); got != 0 || code != api.ErrNumber {
			t.Errorf("Parse(%.40q) = %d, %d, want 0, %d", s, got, code, api.ErrNumber)
		}
	}
}

// TestParseBytes: promise 1.2, no byte but the ten digits is one, wherever it stands.
func TestParseBytes(t *testing.T) {
	for b := range 256 {
		c := string([]byte{byte(b)})
		digit := b >= '0' && b <= '9'
		for _, s := range []string{"1" + c, "-1" + c, "1" + c + "1", "5" + c + "000", "9999999999999999999" + c} {
			_, code := Parse(s)
			if wrong := code == api.ErrNumber; wrong == digit {
				t.Errorf("Parse(%q): code %d", s, code)
			}
		}
	}
}

// TestParseAllShort: promises 1.2 and 1.4, a text is a number just if it is what that number is printed as.
func TestParseAllShort(t *testing.T) {
	var try func(s string, room int)
	try = func(s string, room int) {
		n, err := strconv.ParseInt(s, 10, 64)
		got, code := Parse(s)
		if err == nil && strconv.FormatInt(n, 10) == s {
			if got != n || code != api.OK {
				t.Errorf("Parse(%q) = %d, %d, want %d, 0", s, got, code, n)
			}
		} else if got != 0 || code != api.ErrNumber {
			t.Errorf("Parse(%q) = %d, %d, want 0, %d", s, got, code, api.ErrNumber)
		}
		if room == 0 {
			return
		}
		for _, c := range []string{"-", "0", "1", "5", "9", "+", " ", "a"} {
			try(s+c, room-1)
		}
	}
	try("", 5)
}

// TestIndex: promise 1.3.
func TestIndex(t *testing.T) {
	rows := []struct {
		s    string
		most int
		want int
		code api.Code
	}{
		{"0", 0, 0, api.OK},
		{"1", 0, 0, api.ErrRange},
		{"0", 5, 0, api.OK},
		{"4", 5, 4, api.OK},
		{"5", 5, 5, api.OK},
		{"6", 5, 0, api.ErrRange},
		{"50", 5, 0, api.ErrRange},
		{"-1", 5, 0, api.ErrRange},
		{"-5", 5, 0, api.ErrRange},
		{"-9223372036854775808", 5, 0, api.ErrRange},
		{"1048576", api.MaxValue, api.MaxValue, api.OK},
		{"1048577", api.MaxValue, 0, api.ErrRange},
		{strconv.Itoa(math.MaxInt), math.MaxInt, math.MaxInt, api.OK},
		{"9223372036854775808", math.MaxInt, 0, api.ErrRange},
		{"9223372036854775807", math.MaxInt32, 0, api.ErrRange},
		{"4294967296", 5, 0, api.ErrRange},
		{"0", -1, 0, api.ErrRange},
		{"-1", -1, 0, api.ErrRange},
		{"-2", -1, 0, api.ErrRange},
		{"0", math.MinInt, 0, api.ErrRange},
		{"", 5, 0, api.ErrNumber},
		{"-", 5, 0, api.ErrNumber},
		{"-0", 5, 0, api.ErrNumber},
		{"00", 5, 0, api.ErrNumber},
		{"01", 5, 0, api.ErrNumber},
		{"09", 5, 0, api.ErrNumber},
		{"9x", 5, 0, api.ErrNumber},
		{"x", -1, 0, api.ErrNumber},
		{"99999999999999999999x", 5, 0, api.ErrNumber},
	}
	for _, r := range rows {
		if got, code := Index(r.s, r.most); got != r.want || code != r.code {
			t.Errorf("Index(%q, %d) = %d, %d, want %d, %d", r.s, r.most, got, code, r.want, r.code)
		}
	}
}

// TestThereAndBack: promise 1.4.
func TestThereAndBack(t *testing.T) {
	for _, n := range numbers() {
		if got, code := Parse(Print(n)); got != n || code != api.OK {
			t.Errorf("Parse(Print(%d)) = %d, %d", n, got, code)
		}
		small := int(n)
		if got, code := Parse(Small(small)); got != int64(small) || code != api.OK {
			t.Errorf("Parse(Small(%d)) = %d, %d", small, got, code)
		}
		if small < 0 {
			continue
		}
		if got, code := Index(Small(small), small); got != small || code != api.OK {
			t.Errorf("Index(Small(%d)) = %d, %d", small, got, code)
		}
	}
}
