package tests

import (
	"math"
	"math/big"
	"testing"

	"loop.example/g00832/impl"
)

const (
	maxNum = 1000000000000000000
	maxDiv = 1000000000000000
)

func bigGcd(a int, b int) *big.Int {
	x, y := big.NewInt(int64(a)), big.NewInt(int64(b))
	return new(big.Int).GCD(nil, nil, x.Abs(x), y.Abs(y))
}

func bigRat(r impl.Ratio) *big.Rat {
	return big.NewRat(int64(r.N), int64(r.D))
}

func within(n int, low int, high int) bool {
	return low <= n && n <= high
}

func validByBig(r impl.Ratio) bool {
	return within(r.D, 1, maxDiv) && within(r.N, -maxNum, maxNum) && bigGcd(r.N, r.D).Cmp(big.NewInt(1)) == 0
}

// edgeInts returns a few ints of every size, with both limits of a fraction and both ends of the range.
func edgeInts() []int {
	list := []int{math.MinInt, math.MinInt + 1, math.MinInt + 2, math.MaxInt - 1, math.MaxInt}
	for n := -12; n <= 12; n++ {
		list = append(list, n)
	}
	for _, n := range []int{maxNum, maxDiv, 2 * maxNum, 2 * maxDiv, 3 * maxNum, 3 * maxDiv, 1 << 53, 1 << 62, 1 << 40, 1000000007} {
		list = append(list, n-1, n, n+1, -n-1, -n, -n+1)
	}
	return list
}

// validRatios returns valid fractions of every size: small ones, neighbours that differ in the last place, and the limits.
func validRatios() []impl.Ratio {
	var list []impl.Ratio
	add := func(n int, d int) {
		for _, m := range []int{n, -n} {
			if r := (impl.Ratio{N: m, D: d}); validByBig(r) {
				list = append(list, r)
			}
		}
	}
	for d := 1; d <= 7; d++ {
		for n := 0; n <= 9; n++ {
			add(n, d)
		}
	}
	for _, d := range []int{1, 2, 3, 999999999999989, maxDiv - 2, maxDiv - 1, maxDiv} {
		for _, n := range []int{1, 2, maxDiv - 3, maxDiv - 2, maxDiv - 1, maxDiv, maxDiv + 1, maxNum/2 - 1, maxNum/2 + 1, maxNum - 3, maxNum - 2, maxNum - 1, maxNum} {
			add(n, d)
		}
	}
	// Successive terms of this sequence are the hardest pairs for a comparison by remainders.
	for a, b := 1, 2; b <= maxDiv; a, b = b, a+b {
		add(a, b)
		add(b, a)
	}
	return list
}

func invalidRatios() []impl.Ratio {
	return []impl.Ratio{
		{},
		{N: 1},
		{N: 0, D: 2},
		{N: 0, D: -1},
		{N: 2, D: 4},
		{N: -2, D: 4},
		{N: 1, D: -1},
		{N: -3, D: -2},
		{N: maxDiv, D: maxDiv},
		{N: 1, D: maxDiv + 1},
		{N: maxNum + 1, D: 1},
		{N: -maxNum - 1, D: 1},
		{N: maxNum, D: 2},
		{N: math.MaxInt, D: 1},
		{N: math.MinInt, D: 1},
		{N: math.MinInt, D: 3},
		{N: 1, D: math.MinInt},
		{N: 1, D: math.MaxInt},
		{N: math.MinInt, D: math.MinInt},
	}
}

func TestRatioLimits(t *testing.T) {
	if impl.MaxNum != maxNum || impl.MaxDiv != maxDiv {
		t.Errorf("limits are %d and %d", impl.MaxNum, impl.MaxDiv)
	}
}

func TestGcdOf(t *testing.T) {
	cases := []struct{ a, b, want int }{
		{12, 18, 6},
		{-12, 18, 6},
		{12, -18, 6},
		{-12, -18, 6},
		{0, 0, 0},
		{0, 5, 5},
		{0, -5, 5},
		{5, 0, 5},
		{-5, 0, 5},
		{1, 1, 1},
		{7, 13, 1},
		{math.MaxInt, math.MaxInt, math.MaxInt},
		{math.MaxInt, -math.MaxInt, math.MaxInt},
		{-math.MaxInt, 0, math.MaxInt},
		{math.MaxInt, 49, 49},
		{math.MinInt, 0, 0},
		{0, math.MinInt, 0},
		{math.MinInt, 2, 0},
		{3, math.MinInt, 0},
		{math.MinInt, math.MinInt, 0},
	}
	for _, c := range cases {
		if got := impl.GcdOf(c.a, c.b); got != c.want {
			t.Errorf("GcdOf(%d, %d) = %d, want %d", c.a, c.b, got, c.want)
		}
	}
}

func TestGcdOfSweep(t *testing.T) {
	for _, a := range edgeInts() {
		for _, b := range edgeInts() {
			want := 0
			if a != math.MinInt && b != math.MinInt {
				want = int(bigGcd(a, b).Int64())
			}
			if got := impl.GcdOf(a, b); got != want {
				t.Errorf("GcdOf(%d, %d) = %d, want %d", a, b, got, want)
			}
		}
	}
}

func TestRatioOk(t *testing.T) {
	for _, r := range validRatios() {
		if !impl.RatioOk(r) {
			t.Errorf("RatioOk(%v) is false", r)
		}
	}
	for _, r := range invalidRatios() {
		if impl.RatioOk(r) {
			t.Errorf("RatioOk(%v) is true", r)
		}
	}
	for _, n := range edgeInts() {
		for _, d := range edgeInts() {
			r := impl.Ratio{N: n, D: d}
			if got := impl.RatioOk(r); got != validByBig(r) {
				t.Errorf("RatioOk(%v) = %v", r, got)
			}
		}
	}
}

func TestRatioOf(t *testing.T) {
	cases := []struct {
		n, d int
		want impl.Ratio
	}{
		{6, 4, impl.Ratio{N: 3, D: 2}},
		{6, -4, impl.Ratio{N: -3, D: 2}},
		{-6, 4, impl.Ratio{N: -3, D: 2}},
		{-6, -4, impl.Ratio{N: 3, D: 2}},
		{0, 9, impl.Ratio{N: 0, D: 1}},
		{0, -7, impl.Ratio{N: 0, D: 1}},
		{0, math.MinInt, impl.Ratio{N: 0, D: 1}},
		{5, 0, impl.Ratio{}},
		{0, 0, impl.Ratio{}},
		{math.MinInt, 0, impl.Ratio{}},
		{maxNum, 1, impl.Ratio{N: maxNum, D: 1}},
		{maxNum, -1, impl.Ratio{N: -maxNum, D: 1}},
		{maxNum + 1, 1, impl.Ratio{}},
		{-maxNum - 1, 1, impl.Ratio{}},
		{2*maxNum + 2, 2, impl.Ratio{}},
		{2 * maxNum, 2, impl.Ratio{N: maxNum, D: 1}},
		{-9 * maxNum, 9, impl.Ratio{N: -maxNum, D: 1}},
		{1, maxDiv, impl.Ratio{N: 1, D: maxDiv}},
		{1, -maxDiv, impl.Ratio{N: -1, D: maxDiv}},
		{1, maxDiv + 1, impl.Ratio{}},
		{2, 2*maxDiv + 2, impl.Ratio{}},
		{3, 3 * maxDiv, impl.Ratio{N: 1, D: maxDiv}},
		{9 * maxNum, 9 * maxNum, impl.Ratio{N: 1, D: 1}},
		{math.MinInt, 1, impl.Ratio{}},
		{math.MinInt, -1, impl.Ratio{}},
		{math.MinInt, 8, impl.Ratio{}},
		{math.MinInt, 16, impl.Ratio{N: -576460752303423488, D: 1}},
		{math.MinInt, -48, impl.Ratio{N: 576460752303423488, D: 3}},
		{math.MinInt, math.MinInt, impl.Ratio{N: 1, D: 1}},
		{1 << 62, math.MinInt, impl.Ratio{N: -1, D: 2}},
		{-3 << 61, math.MinInt, impl.Ratio{N: 3, D: 4}},
		{1, math.MinInt, impl.Ratio{}},
		{math.MaxInt, math.MaxInt, impl.Ratio{N: 1, D: 1}},
		{math.MinInt, math.MaxInt, impl.Ratio{}},
		{math.MaxInt, 7, impl.Ratio{}},
		{math.MaxInt, 49, impl.Ratio{N: math.MaxInt / 49, D: 1}},
	}
	for _, c := range cases {
		if got := impl.RatioOf(c.n, c.d); got != c.want {
			t.Errorf("RatioOf(%d, %d) = %v, want %v", c.n, c.d, got, c.want)
		}
	}
}

func TestRatioOfSweep(t *testing.T) {
	for _, n := range edgeInts() {
		for _, d := range edgeInts() {
			var want impl.Ratio
			if d != 0 {
				// A big.Rat is always in lowest terms, with a positive denominator.
				x := new(big.Rat).SetFrac(big.NewInt(int64(n)), big.NewInt(int64(d)))
				if x.Num().IsInt64() && x.Denom().IsInt64() {
					want = impl.Ratio{N: int(x.Num().Int64()), D: int(x.Denom().Int64())}
				}
			}
			if !validByBig(want) {
				want = impl.Ratio{}
			}
			if got := impl.RatioOf(n, d); got != want {
				t.Errorf("RatioOf(%d, %d) = %v, want %v", n, d, got, want)
			}
		}
	}
}

func TestRatioCmp(t *testing.T) {
	cases := []struct {
		r, s impl.Ratio
		want int
	}{
		{impl.Ratio{N: 1, D: 3}, impl.Ratio{N: 1, D: 3}, 0},
		{impl.Ratio{N: 2, D: 7}, impl.Ratio{N: 3, D: 11}, 1},
		{impl.Ratio{N: -2, D: 7}, impl.Ratio{N: -3, D: 11}, -1},
		{impl.Ratio{N: 1, D: 2}, impl.Ratio{N: 0, D: 1}, 1},
		{impl.Ratio{N: -1, D: 2}, impl.Ratio{N: 0, D: 1}, -1},
		{impl.Ratio{N: -1, D: 2}, impl.Ratio{N: -1, D: 1}, 1},
		{impl.Ratio{N: 5, D: 2}, impl.Ratio{N: 2, D: 1}, 1},
		{impl.Ratio{N: maxDiv - 2, D: maxDiv - 1}, impl.Ratio{N: maxDiv - 1, D: maxDiv}, -1},
		{impl.Ratio{N: 1 - maxDiv, D: maxDiv}, impl.Ratio{N: 2 - maxDiv, D: maxDiv - 1}, -1},
		{impl.Ratio{N: maxNum - 1, D: maxDiv}, impl.Ratio{N: maxNum - 1001, D: maxDiv - 1}, 1},
		{impl.Ratio{N: maxNum, D: 1}, impl.Ratio{N: maxNum - 1, D: 1}, 1},
		{impl.Ratio{N: -maxNum, D: 1}, impl.Ratio{N: maxNum, D: 1}, -1},
	}
	for _, c := range cases {
		if got := impl.RatioCmp(c.r, c.s); got != c.want {
			t.Errorf("RatioCmp(%v, %v) = %d, want %d", c.r, c.s, got, c.want)
		}
	}
}

func TestRatioCmpSweep(t *testing.T) {
	for _, r := range validRatios() {
		for _, s := range validRatios() {
			want := bigRat(r).Cmp(bigRat(s))
			if got := impl.RatioCmp(r, s); got != want {
				t.Errorf("RatioCmp(%v, %v) = %d, want %d", r, s, got, want)
			}
		}
	}
}

// Products in floats or in wrapping ints confuse fractions that differ by less than a unit in the last place.
func TestRatioCmpTellsNeighboursApart(t *testing.T) {
	for k := range 2000 {
		// n(d-1) - (n-1)d = d - n, so the difference of the two is 1 / (d(d-1)) for n = d - 1.
		d := maxDiv - k
		r, s := impl.Ratio{N: d - 1, D: d}, impl.Ratio{N: d - 2, D: d - 1}
		if impl.RatioCmp(r, s) != 1 || impl.RatioCmp(s, r) != -1 || impl.RatioCmp(r, r) != 0 {
			t.Errorf("%v and %v are not told apart", r, s)
		}
		r, s = impl.Ratio{N: -r.N, D: r.D}, impl.Ratio{N: -s.N, D: s.D}
		if impl.RatioCmp(r, s) != -1 || impl.RatioCmp(s, r) != 1 || impl.RatioCmp(r, r) != 0 {
			t.Errorf("%v and %v are not told apart", r, s)
		}
	}
}

func TestRatioRounding(t *testing.T) {
	cases := []struct {
		r           impl.Ratio
		floor, ceil int
	}{
		{impl.Ratio{N: 0, D: 1}, 0, 0},
		{impl.Ratio{N: 4, D: 1}, 4, 4},
		{impl.Ratio{N: -4, D: 1}, -4, -4},
		{impl.Ratio{N: 1, D: 3}, 0, 1},
		{impl.Ratio{N: -1, D: 3}, -1, 0},
		{impl.Ratio{N: 3, D: 2}, 1, 2},
		{impl.Ratio{N: -3, D: 2}, -2, -1},
		{impl.Ratio{N: 7, D: 4}, 1, 2},
		{impl.Ratio{N: -7, D: 4}, -2, -1},
		{impl.Ratio{N: 1, D: maxDiv}, 0, 1},
		{impl.Ratio{N: -1, D: maxDiv}, -1, 0},
		{impl.Ratio{N: maxNum, D: 1}, maxNum, maxNum},
		{impl.Ratio{N: -maxNum, D: 1}, -maxNum, -maxNum},
		{impl.Ratio{N: maxNum, D: 3}, 333333333333333333, 333333333333333334},
		{impl.Ratio{N: -maxNum, D: 3}, -333333333333333334, -333333333333333333},
	}
	for _, c := range cases {
		if got := impl.RatioFloor(c.r); got != c.floor {
			t.Errorf("RatioFloor(%v) = %d, want %d", c.r, got, c.floor)
		}
		if got := impl.RatioCeil(c.r); got != c.ceil {
			t.Errorf("RatioCeil(%v) = %d, want %d", c.r, got, c.ceil)
		}
	}
}

func TestRatioRoundingSweep(t *testing.T) {
	for _, r := range validRatios() {
		low, high := impl.RatioFloor(r), impl.RatioCeil(r)
		x := bigRat(r)
		if big.NewRat(int64(low), 1).Cmp(x) > 0 || big.NewRat(int64(low)+1, 1).Cmp(x) <= 0 {
			t.Errorf("RatioFloor(%v) = %d", r, low)
		}
		if big.NewRat(int64(high), 1).Cmp(x) < 0 || big.NewRat(int64(high)-1, 1).Cmp(x) >= 0 {
			t.Errorf("RatioCeil(%v) = %d", r, high)
		}
	}
}

func TestRatioMinMax(t *testing.T) {
	for _, r := range validRatios() {
		for _, s := range validRatios() {
			low, high := r, s
			if bigRat(r).Cmp(bigRat(s)) > 0 {
				low, high = s, r
			}
			if got := impl.RatioMin(r, s); got != low {
				t.Errorf("RatioMin(%v, %v) = %v, want %v", r, s, got, low)
			}
			if got := impl.RatioMax(r, s); got != high {
				t.Errorf("RatioMax(%v, %v) = %v, want %v", r, s, got, high)
			}
		}
	}
}

func TestRatioInvalidArguments(t *testing.T) {
	none := impl.Ratio{}
	others := append(invalidRatios(), impl.Ratio{N: 0, D: 1}, impl.Ratio{N: -3, D: 2}, impl.Ratio{N: 5, D: 1}, impl.Ratio{N: maxNum, D: 1})
	for _, bad := range invalidRatios() {
		if low, high := impl.RatioFloor(bad), impl.RatioCeil(bad); low != 0 || high != 0 {
			t.Errorf("RatioFloor(%v) = %d, RatioCeil = %d", bad, low, high)
		}
		if text := impl.FormatRatio(bad); text != "" {
			t.Errorf("FormatRatio(%v) = %q", bad, text)
		}
		for _, s := range others {
			if impl.RatioCmp(bad, s) != 0 || impl.RatioCmp(s, bad) != 0 {
				t.Errorf("RatioCmp of %v and %v is not 0", bad, s)
			}
			if impl.RatioMin(bad, s) != none || impl.RatioMin(s, bad) != none {
				t.Errorf("RatioMin of %v and %v is not the zero value", bad, s)
			}
			if impl.RatioMax(bad, s) != none || impl.RatioMax(s, bad) != none {
				t.Errorf("RatioMax of %v and %v is not the zero value", bad, s)
			}
		}
	}
}

func TestFormatRatio(t *testing.T) {
	cases := []struct {
		r    impl.Ratio
		want string
	}{
		{impl.Ratio{N: 0, D: 1}, "0"},
		{impl.Ratio{N: 7, D: 1}, "7"},
		{impl.Ratio{N: -7, D: 1}, "-7"},
		{impl.Ratio{N: 1, D: 3}, "1/3"},
		{impl.Ratio{N: -3, D: 2}, "-3/2"},
		{impl.Ratio{N: 1, D: 10}, "1/10"},
		{impl.Ratio{N: maxNum, D: 1}, "1000000000000000000"},
		{impl.Ratio{N: -1, D: maxDiv}, "-1/1000000000000000"},
		{impl.Ratio{N: maxNum - 1, D: maxDiv}, "999999999999999999/1000000000000000"},
	}
	for _, c := range cases {
		if got := impl.FormatRatio(c.r); got != c.want {
			t.Errorf("FormatRatio(%v) = %q, want %q", c.r, got, c.want)
		}
	}
}

func TestRatioIsRecoveredFromItsText(t *testing.T) {
	for _, r := range validRatios() {
		text := impl.FormatRatio(r)
		if got, ok := impl.ParseRatio(text); !ok || got != r {
			t.Errorf("ParseRatio(%q) = %v, %v, want %v", text, got, ok, r)
		}
	}
}

func TestParseRatioRejects(t *testing.T) {
	cases := []string{
		"", "/", "-", "1/", "/2", "-/2", "1/-", "1//2", "1/2/3", "1/2/", "/1/2",
		"2/4", "-2/4", "0/2", "6/3", "4/2", "1000/1000000000000000",
		"3/1", "0/1", "-3/1", "1/1",
		"3/0", "0/0", "1/-2", "-1/-2", "0/-1",
		"+3/2", "3/+2", "+3", "-0", "-0/2", "--3/2",
		"03/2", "3/02", "-03/2", "00", "07", "3/2.0", "1.5", "1e3", "0x3/2",
		" 3/2", "3/2 ", "3 /2", "3/ 2", "3\t/2", "3/2\n", "\n3/2", "3/2\x00",
		"a", "a/b", "3/b", "a/2", "3:2", "3\\2", "1/2,1/3", "\xff/2", "３/2",
		"1000000000000000001", "-1000000000000000001", "1/1000000000000001",
		"1000000000000000001/2", "9223372036854775807", "-9223372036854775808",
		"9223372036854775808/3", "1/9223372036854775808", "1/9223372036854775807",
		"18446744073709551617/3", "1/18446744073709551618",
	}
	for _, text := range cases {
		if got, ok := impl.ParseRatio(text); ok || got != (impl.Ratio{}) {
			t.Errorf("ParseRatio(%q) = %v, %v", text, got, ok)
		}
	}
}

// Whatever ParseRatio accepts after a change of one byte must still be written as that very text.
func TestParseRatioAcceptsNothingElse(t *testing.T) {
	for _, text := range []string{"0", "12", "-7", "3/2", "-35/12", "1000000000000000000", "1/1000000000000000"} {
		for i := 0; i <= len(text); i++ {
			for code := range 256 {
				b := string([]byte{byte(code)})
				changed := []string{text[:i] + b + text[i:]}
				if i < len(text) {
					changed = append(changed, text[:i]+b+text[i+1:])
				}
				for _, c := range changed {
					got, ok := impl.ParseRatio(c)
					if ok && (!validByBig(got) || impl.FormatRatio(got) != c) || !ok && got != (impl.Ratio{}) {
						t.Errorf("ParseRatio(%q) = %v, %v", c, got, ok)
					}
				}
			}
		}
	}
}
