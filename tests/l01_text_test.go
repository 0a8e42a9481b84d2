package tests

import (
	"math"
	"slices"
	"strings"
	"testing"

	"loop.example/g00832/impl"
)

// sampleInts returns the ints around 0, around every power of two and of ten, and at both ends of the range.
func sampleInts() []int {
	list := []int{math.MinInt, math.MinInt + 1, math.MaxInt - 1, math.MaxInt}
	for n := -1100; n <= 1100; n++ {
		list = append(list, n)
	}
	for bit := range 63 {
		p := 1 << bit
		list = append(list, p-1, p, p+1, -p-1, -p, -p+1)
	}
	for p := 10; ; p *= 10 {
		list = append(list, p-1, p, p+1, -p-1, -p, -p+1)
		if p > math.MaxInt/10 {
			return list
		}
	}
}

func allBytes() string {
	b := make([]byte, 256)
	for i := range b {
		b[i] = byte(i)
	}
	return string(b)
}

func TestFormatInt(t *testing.T) {
	cases := []struct {
		n    int
		want string
	}{
		{0, "0"},
		{7, "7"},
		{-5, "-5"},
		{10, "10"},
		{-100, "-100"},
		{1234567890, "1234567890"},
		{math.MaxInt, "9223372036854775807"},
		{math.MaxInt - 1, "9223372036854775806"},
		{math.MinInt, "-9223372036854775808"},
		{math.MinInt + 1, "-9223372036854775807"},
	}
	for _, c := range cases {
		if got := impl.FormatInt(c.n); got != c.want {
			t.Errorf("FormatInt(%d) = %q, want %q", c.n, got, c.want)
		}
	}
}

// P1: numbers are recovered from their text.
func TestIntsAreRecovered(t *testing.T) {
	for _, n := range sampleInts() {
		text := impl.FormatInt(n)
		if got, ok := impl.ParseInt(text); got != n || !ok {
			t.Errorf("ParseInt(%q) = %d, %v, want %d, true", text, got, ok, n)
		}
	}
}

// P1: no text but FormatInt's own is taken for a number.
func TestParseIntTakesOnlyFormattedText(t *testing.T) {
	for _, n := range sampleInts() {
		text := impl.FormatInt(n)
		sign, digits := "", text
		if n < 0 {
			sign, digits = "-", text[1:]
		}
		for _, bad := range []string{"+" + text, " " + text, text + " ", text + "\n", sign + "0" + digits, "-" + sign + digits + "x", text + ".", text + "\x00", "--" + digits} {
			if got, ok := impl.ParseInt(bad); got != 0 || ok {
				t.Errorf("ParseInt(%q) = %d, %v, want 0, false", bad, got, ok)
			}
		}
	}
}

func TestParseIntInvalid(t *testing.T) {
	cases := []string{
		"", "-", "+", "--", "-+1", "+-1",
		"-0", "+0", "00", "07", "-07", "000", "-00",
		"+7", "++7", "--7", "7-", "7+",
		" ", " 7", "7 ", "- 7", "1 2", "\t7", "7\n", "\n",
		"1_000", "1,000", "1.0", "1e3", "0x10", "0b1", "0o7", "1/2", "a", "7a", "inf",
		"9223372036854775808", "-9223372036854775809",
		"18446744073709551615", "18446744073709551616", "18446744073709551617", "-18446744073709551616",
		"10000000000000000000", "99999999999999999999", "-99999999999999999999",
		"09223372036854775807", "-09223372036854775808",
		"\xff", "7\xff", "\xff7", "\x00", "7\x00",
		"\u0667", "\uff17", "\u22127", "7\u00a0",
		strings.Repeat("9", 100000), "-" + strings.Repeat("1", 100000), strings.Repeat("0", 100000),
	}
	for _, s := range cases {
		if got, ok := impl.ParseInt(s); got != 0 || ok {
			t.Errorf("ParseInt(%.40q) = %d, %v, want 0, false", s, got, ok)
		}
	}
}

func TestParseIntSingleBytes(t *testing.T) {
	for i := range 256 {
		s := string([]byte{byte(i)})
		want, digit := 0, '0' <= i && i <= '9'
		if digit {
			want = i - '0'
		}
		if got, ok := impl.ParseInt(s); got != want || ok != digit {
			t.Errorf("ParseInt(%q) = %d, %v, want %d, %v", s, got, ok, want, digit)
		}
	}
}

func TestIsDigits(t *testing.T) {
	cases := []struct {
		s    string
		want bool
	}{
		{"", false},
		{"0", true},
		{"9", true},
		{"09", true},
		{"0000", true},
		{"0123456789", true},
		{strings.Repeat("9", 5000), true},
		{strings.Repeat("9", 5000) + "a", false},
		{"-1", false},
		{"+1", false},
		{"1.5", false},
		{" 1", false},
		{"1 ", false},
		{"1 2", false},
		{"12\n", false},
		{"a", false},
		{"1a2", false},
		{"\u0661\u0662", false},
		{"\uff11", false},
		{"\xff", false},
		{"1\xff", false},
		{"\xc31", false},
		{"\xb1", false},
		{"1\x00", false},
	}
	for _, c := range cases {
		if got := impl.IsDigits(c.s); got != c.want {
			t.Errorf("IsDigits(%.40q) = %v, want %v", c.s, got, c.want)
		}
	}
}

func TestIsDigitsForEveryByte(t *testing.T) {
	for i := range 256 {
		b := string([]byte{byte(i)})
		want := '0' <= i && i <= '9'
		for _, s := range []string{b, b + "5", "5" + b, "5" + b + "5"} {
			if got := impl.IsDigits(s); got != want {
				t.Errorf("IsDigits(%q) = %v, want %v", s, got, want)
			}
		}
	}
}

func TestIsName(t *testing.T) {
	cases := []struct {
		s    string
		want bool
	}{
		{"", false},
		{"a", true},
		{"z", true},
		{"x1", true},
		{"room12", true},
		{"a0000000", true},
		{"abcdefgh", true},
		{"abcdefghi", false},
		{"a12345678", false},
		{strings.Repeat("a", 5000), false},
		{"1x", false},
		{"0", false},
		{"12345678", false},
		{"A", false},
		{"aB", false},
		{"a_b", false},
		{"a-b", false},
		{" a", false},
		{"a ", false},
		{"a\n", false},
		{"\u00e9", false},
		{"a\u00e9", false},
		{"a\u0661", false},
		{"\uff41", false},
		{"\xff", false},
		{"a\xff", false},
		{"a\x00", false},
		{"\xe1", false},
	}
	for _, c := range cases {
		if got := impl.IsName(c.s); got != c.want {
			t.Errorf("IsName(%.40q) = %v, want %v", c.s, got, c.want)
		}
	}
}

func TestIsNameForEveryByte(t *testing.T) {
	for i := range 256 {
		b := string([]byte{byte(i)})
		letter := 'a' <= i && i <= 'z'
		inner := letter || '0' <= i && i <= '9'
		if got := impl.IsName(b); got != letter {
			t.Errorf("IsName(%q) = %v, want %v", b, got, letter)
		}
		if got := impl.IsName(b + "x7"); got != letter {
			t.Errorf("IsName(%q) = %v, want %v", b+"x7", got, letter)
		}
		for _, s := range []string{"x" + b, "x" + b + "x", "xxxxxxx" + b} {
			if got := impl.IsName(s); got != inner {
				t.Errorf("IsName(%q) = %v, want %v", s, got, inner)
			}
		}
	}
}

func TestSplitAny(t *testing.T) {
	cases := []struct {
		s, by string
		want  []string
	}{
		{"", "", []string{""}},
		{"", ",", []string{""}},
		{"abc", "", []string{"abc"}},
		{"abc", ",", []string{"abc"}},
		{"a,b c", ", ", []string{"a", "b", "c"}},
		{"a,b c", ",", []string{"a", "b c"}},
		{"a,b c", " ,, ,", []string{"a", "b", "c"}},
		{",", ",", []string{"", ""}},
		{",a", ",", []string{"", "a"}},
		{"a,", ",", []string{"a", ""}},
		{",a,", ",", []string{"", "a", ""}},
		{"a,,b", ",", []string{"a", "", "b"}},
		{"a, b", ", ", []string{"a", "", "b"}},
		{",,,", ",", []string{"", "", "", ""}},
		{", ,", " ,", []string{"", "", "", ""}},
		{"abc", "abc", []string{"", "", "", ""}},
		{"a\nb\n", "\n", []string{"a", "b", ""}},
		{"a\x00b", "\x00", []string{"a", "b"}},
		{"\xff\xfe", "\xff", []string{"", "\xfe"}},
		{"\xff\xfe", "\xfe", []string{"\xff", ""}},
		{"\xff", "\ufffd", []string{"\xff"}},
		{"a\xffb\xfec", "\xff", []string{"a", "b\xfec"}},
		{"x\u00e9y", "\xa9", []string{"x\xc3", "y"}},
		{"x\u00e9y", "\u00e9", []string{"x", "", "y"}},
		{"x\u00e8y", "\u00e9", []string{"x", "\xa8y"}},
		{"\u20ac", "\x82", []string{"\xe2", "\xac"}},
		{"a\u00e9b", ",", []string{"a\u00e9b"}},
	}
	for _, c := range cases {
		if got := impl.SplitAny(c.s, c.by); !slices.Equal(got, c.want) {
			t.Errorf("SplitAny(%q, %q) = %q, want %q", c.s, c.by, got, c.want)
		}
	}
}

func TestSplitAnyAtEveryByte(t *testing.T) {
	all := allBytes()
	for i := range 256 {
		by := string([]byte{byte(i)})
		if got, want := impl.SplitAny(all, by), []string{all[:i], all[i+1:]}; !slices.Equal(got, want) {
			t.Errorf("SplitAny(all bytes, %q) = %q", by, got)
		}
	}
	if got := impl.SplitAny(all, all); len(got) != 257 || impl.Join(got, "") != "" {
		t.Errorf("SplitAny(all bytes, all bytes) = %q", got)
	}
}

// A long text and many separators take time in proportion to their lengths, not to the product.
func TestSplitAnyLong(t *testing.T) {
	s := strings.Repeat("ab,", 1000000)
	by := strings.Repeat("x", 1000000) + ","
	got := impl.SplitAny(s, by)
	if len(got) != 1000001 || got[0] != "ab" || got[999999] != "ab" || got[1000000] != "" {
		t.Errorf("SplitAny of a long text has %d elements", len(got))
	}
}

func TestSplitLines(t *testing.T) {
	cases := []struct {
		s    string
		want []string
	}{
		{"", nil},
		{"a", []string{"a"}},
		{"a\n", []string{"a"}},
		{"a\nb", []string{"a", "b"}},
		{"a\nb\n", []string{"a", "b"}},
		{"\n", []string{""}},
		{"\n\n", []string{"", ""}},
		{"\na", []string{"", "a"}},
		{"\na\n", []string{"", "a"}},
		{"a\n\nb", []string{"a", "", "b"}},
		{"a\n\n", []string{"a", ""}},
		{"a\n ", []string{"a", " "}},
		{"a\n\x00", []string{"a", "\x00"}},
		{"a\r\nb\r", []string{"a\r", "b\r"}},
		{"a\rb", []string{"a\rb"}},
		{"a\u2028b\u0085c\vd\fe", []string{"a\u2028b\u0085c\vd\fe"}},
		{"\u00e9\n\u20ac", []string{"\u00e9", "\u20ac"}},
		{"\xff\n\xfe\n\xc3", []string{"\xff", "\xfe", "\xc3"}},
		{"\xc3\n\xe2\x82\n\xf0\x9f\x98\nx", []string{"\xc3", "\xe2\x82", "\xf0\x9f\x98", "x"}},
		{"a\n\xff", []string{"a", "\xff"}},
	}
	for _, c := range cases {
		if got := impl.SplitLines(c.s); !slices.Equal(got, c.want) {
			t.Errorf("SplitLines(%q) = %q, want %q", c.s, got, c.want)
		}
	}
}

func TestSplitLinesOfAllBytes(t *testing.T) {
	all := allBytes()
	want := []string{all[:10], all[11:] + all[:10], all[11:]}
	if got := impl.SplitLines(all + all); !slices.Equal(got, want) {
		t.Errorf("SplitLines(all bytes twice) = %q", got)
	}
}

func TestJoin(t *testing.T) {
	cases := []struct {
		l    []string
		by   string
		want string
	}{
		{nil, "", ""},
		{nil, ",", ""},
		{[]string{}, ",", ""},
		{[]string{""}, ",", ""},
		{[]string{"a"}, ",", "a"},
		{[]string{"a", "b"}, ",", "a,b"},
		{[]string{"a", "b", "c"}, "", "abc"},
		{[]string{"a", "b", "c"}, " - ", "a - b - c"},
		{[]string{"", ""}, ",", ","},
		{[]string{"", "", ""}, ",", ",,"},
		{[]string{"", "a", ""}, ",", ",a,"},
		{[]string{",", ","}, ",", ",,,"},
		{[]string{"\xff", "\xfe"}, "\x80", "\xff\x80\xfe"},
		{[]string{"\xc3", "\xa9"}, "", "\u00e9"},
		{[]string{"a", "b"}, "\x00", "a\x00b"},
	}
	for _, c := range cases {
		if got := impl.Join(c.l, c.by); got != c.want {
			t.Errorf("Join(%q, %q) = %q, want %q", c.l, c.by, got, c.want)
		}
	}
}

func TestJoinUndoesSplitAny(t *testing.T) {
	texts := []string{"", ",", ",,", "a,b", ",a,,b,", "\xff,\xfe", "\u00e9,\xc3", allBytes() + allBytes(), strings.Repeat("ab,", 500)}
	for _, s := range texts {
		for i := range 256 {
			by := string([]byte{byte(i)})
			parts := impl.SplitAny(s, by)
			if got := impl.Join(parts, by); got != s {
				t.Errorf("Join(SplitAny(%q, %q)) = %q", s, by, got)
			}
			if want := strings.Count(s, by) + 1; i < 128 && len(parts) != want {
				t.Errorf("SplitAny(%q, %q) has %d elements, want %d", s, by, len(parts), want)
			}
		}
	}
}

func TestJoinLeavesItsArgument(t *testing.T) {
	array := [4]string{"a", "b", "spare", "end"}
	impl.Join(array[:2], ",")
	if array != [4]string{"a", "b", "spare", "end"} {
		t.Errorf("Join changed its argument: %q", array)
	}
}

func TestPadZeros(t *testing.T) {
	long := strings.Repeat("x", 3000)
	cases := []struct {
		s    string
		n    int
		want string
	}{
		{"7", 3, "007"},
		{"7", 2, "07"},
		{"7", 1, "7"},
		{"7", 0, "7"},
		{"7", -1, "7"},
		{"123", 3, "123"},
		{"123", 2, "123"},
		{"123", 4, "0123"},
		{"", 0, ""},
		{"", 1, "0"},
		{"", 4, "0000"},
		{"", -5, ""},
		{"-5", 4, "00-5"},
		{"000", 5, "00000"},
		{"a b", 5, "00a b"},
		{"\u00e9", 2, "\u00e9"},
		{"\u00e9", 3, "0\u00e9"},
		{"\xff", 2, "0\xff"},
		{"\xff\xfe\x00", 4, "0\xff\xfe\x00"},
		{"7", 1999, strings.Repeat("0", 1998) + "7"},
		{"7", 2000, strings.Repeat("0", 1999) + "7"},
		{"7", 2001, "7"},
		{"", 1999, strings.Repeat("0", 1999)},
		{"", 2000, strings.Repeat("0", 2000)},
		{"", 2001, ""},
		{long[:1999], 2000, "0" + long[:1999]},
		{long[:2000], 2000, long[:2000]},
		{long[:2000], 2001, long[:2000]},
		{long[:2001], 2000, long[:2001]},
		{long, 2000, long},
		{long, 3001, long},
		{"7", math.MaxInt, "7"},
		{"7", math.MinInt, "7"},
		{"", math.MaxInt, ""},
		{"", math.MinInt, ""},
	}
	for _, c := range cases {
		if got := impl.PadZeros(c.s, c.n); got != c.want {
			t.Errorf("PadZeros(%.20q of %d bytes, %d) has %d bytes: %.20q, want %d bytes: %.20q", c.s, len(c.s), c.n, len(got), got, len(c.want), c.want)
		}
	}
}

// Chapter 1: every result is newly allocated, and no state is kept between calls.
func TestSplitsAreNewEachTime(t *testing.T) {
	splits := map[string]func() []string{
		"SplitAny":            func() []string { return impl.SplitAny("a,b", ",") },
		"SplitAny without by": func() []string { return impl.SplitAny("ab", "") },
		"SplitLines":          func() []string { return impl.SplitLines("a\nb") },
	}
	for name, split := range splits {
		first := split()
		want := slices.Clone(first)
		first[0] = "changed"
		_ = append(first[:0], "over", "written")
		if got := split(); !slices.Equal(got, want) {
			t.Errorf("%s: a change of one result shows in the next: %q", name, got)
		}
	}
}
