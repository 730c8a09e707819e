package tests

import (
	"math"
	"slices"
	"strconv"
	"strings"
	"testing"

	"loop.example/g00931/impl"
)

func TestCodes(t *testing.T) {
	codes := []int64{
		impl.OK, impl.ErrInvalid, impl.ErrRange, impl.ErrNotFound, impl.ErrExists, impl.ErrFull,
		impl.ErrState, impl.ErrSyntax, impl.ErrFormat, impl.ErrClash, impl.ErrOpen,
	}
	names := []string{
		"ok", "invalid", "range", "not-found", "exists", "full", "state", "syntax", "format", "clash", "open",
	}
	for k, code := range codes {
		same(t, "the value of "+names[k], code, int64(k))
		same(t, "CodeName", impl.CodeName(code), names[k])
	}
	for _, code := range edgeNumbers {
		if code < 0 || code > 10 {
			same(t, "CodeName of "+strconv.FormatInt(code, 10), impl.CodeName(code), "")
		}
	}
	same(t, "MaxName", int64(impl.MaxName), int64(12))
}

func TestIsName(t *testing.T) {
	good := []string{
		"knot-3", "a", "z", "m", "a-", "a--", "a0", "a9", "az", "k2-b", "abcdefghijkl", "z-9876543210", "x-----------",
	}
	for _, s := range good {
		same(t, "IsName of "+s, impl.IsName(s), true)
	}
	bad := []string{
		"", "abcdefghijklm", "abcdefghijkl-", "abcdefghijkl0", strings.Repeat("a", 1000),
		"-", "-a", "0", "9a", "3-knot", "A", "Knot", "kNot", "knoT", " ", " a", "a ", "a b", "a_b", "a.b", "a+",
		"a`", "a{", "`", "{", "a/", "a:", "a,", "a@", "a[", "a\n", "\na", "a\x00", "\x00", "a\x7f",
		"é", "aé", "naïve", "a\u2010b", "a\u0663", "\u0430", "a\uff41", "a\xff", "\xff", "a\xe1", "a\u0161",
	}
	for _, s := range bad {
		same(t, "IsName of "+strconv.Quote(s), impl.IsName(s), false)
	}
}

// TestIsNameBytes tries each byte as the first, a middle and the last one, in names up to the longest.
func TestIsNameBytes(t *testing.T) {
	for b := range 256 {
		c := string([]byte{byte(b)})
		letter := b >= 'a' && b <= 'z'
		other := letter || b >= '0' && b <= '9' || b == '-'
		same(t, "a first byte "+strconv.Itoa(b), impl.IsName(c), letter)
		same(t, "a first of two bytes "+strconv.Itoa(b), impl.IsName(c+"a"), letter)
		same(t, "a middle byte "+strconv.Itoa(b), impl.IsName("a"+c+"a"), other)
		same(t, "a last byte "+strconv.Itoa(b), impl.IsName("abcdefghijk"+c), other)
		same(t, "a byte too many "+strconv.Itoa(b), impl.IsName("abcdefghijkl"+c), false)
	}
}

// TestIsNameLength: the limit holds for characters, and each one of a name has one byte.
func TestIsNameLength(t *testing.T) {
	for n := range 30 {
		same(t, "length "+strconv.Itoa(n), impl.IsName(strings.Repeat("k", n)), n >= 1 && n <= impl.MaxName)
	}
}

func TestDecimal(t *testing.T) {
	want := map[int64]string{
		0: "0", 1: "1", -1: "-1", 9: "9", 10: "10", -10: "-10", 100: "100", 1234567890: "1234567890", -12: "-12",
		999999999999999999: "999999999999999999", -999999999999999999: "-999999999999999999",
		1000000000000000000: "1000000000000000000", -1000000000000000000: "-1000000000000000000",
		math.MaxInt64: "9223372036854775807", math.MinInt64: "-9223372036854775808",
		math.MinInt64 + 1: "-9223372036854775807",
	}
	for n, s := range want {
		same(t, "Decimal of "+s, impl.Decimal(n), s)
	}
}

func TestReadDecimal(t *testing.T) {
	good := map[string]int64{
		"0": 0, "1": 1, "-1": -1, "7": 7, "-12": -12, "10": 10, "-100": -100, "1000000": 1000000,
		"999999999999999999": 999999999999999999, "-999999999999999999": -999999999999999999,
		"100000000000000000": 100000000000000000, "-100000000000000000": -100000000000000000,
	}
	for s, want := range good {
		n, ok := impl.ReadDecimal(s)
		same(t, "ReadDecimal of "+s, []any{n, ok}, []any{want, true})
	}
	bad := []string{
		"", "-", "+", "--1", "-0", "+0", "+1", "00", "01", "007", "-01", "-007", "1-", "1 ", " 1", "- 1", "1 2", "\t1", "1\n",
		"1000000000000000000", "-1000000000000000000", "1234567890123456789", "-1234567890123456789",
		"0999999999999999999", "-0999999999999999999", "0000000000000000001", "000000000000000001",
		"9223372036854775807", "-9223372036854775808", "9223372036854775808", "-9223372036854775809",
		"18446744073709551616", "18446744073709551617", "-18446744073709551617", strings.Repeat("9", 100), strings.Repeat("0", 100),
		"a", "1a", "a1", "0x1", "0b1", "0o7", "1_000", "_1", "1.0", "1.", ".1", "1e3", "1,0", "inf", "nan",
		"\x00", "1\x00", "\xff", "\u0663", "\uff11", "\u22121", "1\u00a0",
	}
	for _, s := range bad {
		n, ok := impl.ReadDecimal(s)
		same(t, "ReadDecimal of "+strconv.Quote(s), []any{n, ok}, []any{int64(0), false})
	}
}

// TestDecimalBack reads numbers of each length back, if they have at most 18 digits.
func TestDecimalBack(t *testing.T) {
	power := int64(1)
	for digits := 1; digits <= 19; digits++ {
		for _, n := range []int64{power, power + 1, 2*power - 1, power - 1} {
			for _, m := range []int64{n, -n} {
				s := impl.Decimal(m)
				got, ok := impl.ReadDecimal(s)
				if len(strings.TrimPrefix(s, "-")) <= 18 {
					same(t, s, []any{got, ok}, []any{m, true})
				} else {
					same(t, s, []any{got, ok}, []any{int64(0), false})
				}
			}
		}
		if digits < 19 {
			power *= 10
		}
	}
}

func TestSplitWords(t *testing.T) {
	cases := []struct {
		text string
		want []string
	}{
		{"", nil}, {" ", nil}, {"     ", nil},
		{"a", []string{"a"}}, {"knot-3", []string{"knot-3"}}, {" a", []string{"a"}}, {"a ", []string{"a"}},
		{"  a  ", []string{"a"}}, {"a b", []string{"a", "b"}}, {"a  b", []string{"a", "b"}},
		{"   new  3    2 ", []string{"new", "3", "2"}}, {"b a b", []string{"b", "a", "b"}},
		{"a\tb", []string{"a\tb"}}, {"a\nb", []string{"a\nb"}}, {"\t", []string{"\t"}}, {"\n \r\v\f", []string{"\n", "\r\v\f"}},
		{"\ta ", []string{"\ta"}}, {" a\n", []string{"a\n"}}, {"a\x00b c", []string{"a\x00b", "c"}}, {"\x1f!", []string{"\x1f!"}},
		{"a\u00a0b", []string{"a\u00a0b"}}, {"a\u0085b", []string{"a\u0085b"}}, {"a\u2003b\u3000c", []string{"a\u2003b\u3000c"}},
		{"\xff \xfe", []string{"\xff", "\xfe"}}, {"a\xc0 b", []string{"a\xc0", "b"}}, {"a\xe0\x80\xa0b", []string{"a\xe0\x80\xa0b"}},
		{"a\xc2 \xa0", []string{"a\xc2", "\xa0"}}, {"\u00e9 \u00df", []string{"\u00e9", "\u00df"}}, {"a\xa0b\x85c", []string{"a\xa0b\x85c"}},
	}
	for _, c := range cases {
		got := impl.SplitWords(c.text)
		if !slices.Equal(got, c.want) {
			t.Errorf("SplitWords of %q: got %q, want %q", c.text, got, c.want)
		}
	}
}

// TestSplitWordsBytes: each byte but the blank separates nothing.
func TestSplitWordsBytes(t *testing.T) {
	for b := range 256 {
		text := "  a" + string([]byte{byte(b)}) + "b  c "
		want := []string{"a" + string([]byte{byte(b)}) + "b", "c"}
		if b == ' ' {
			want = []string{"a", "b", "c"}
		}
		if got := impl.SplitWords(text); !slices.Equal(got, want) {
			t.Errorf("byte %d: got %q, want %q", b, got, want)
		}
	}
}

// TestSplitWordsLong: the parts of a long text, joined by blanks, are the text again.
func TestSplitWordsLong(t *testing.T) {
	text := strings.Repeat("word-1 \t\xff x ", 5000) + "end"
	got := impl.SplitWords(text)
	same(t, "number of parts", len(got), 15001)
	same(t, "parts joined", strings.Join(got, " "), text)
}
