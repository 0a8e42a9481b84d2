package tests

import (
	"math"
	"math/big"
	"testing"

	"loop.example/g00832/impl"
)

const (
	maxCoef = 50000
	maxTop  = 100000000
)

// halfByBig returns the valid half plane with a*x + b*y <= c, and the zero value and false if there is none.
func halfByBig(a int, b int, c int) (impl.Half, bool) {
	if a == 0 && b == 0 {
		return impl.Half{}, false
	}
	shared := new(big.Int).GCD(nil, nil, bigGcd(a, b), bigGcd(c, 0))
	fits := true
	reduced := func(n int, most int64) int {
		q := new(big.Int).Quo(big.NewInt(int64(n)), shared)
		fits = fits && q.CmpAbs(big.NewInt(most)) <= 0
		return int(q.Int64())
	}
	h := impl.Half{A: reduced(a, maxCoef), B: reduced(b, maxCoef), C: reduced(c, maxTop)}
	if !fits {
		return impl.Half{}, false
	}
	return h, true
}

// validHalfByBig relies on a half plane being valid exactly if it is its own reduced form.
func validHalfByBig(h impl.Half) bool {
	r, ok := halfByBig(h.A, h.B, h.C)
	return ok && r == h
}

// bigSum returns a*x + b*y.
func bigSum(a int, x int, b int, y int) *big.Int {
	first := new(big.Int).Mul(big.NewInt(int64(a)), big.NewInt(int64(x)))
	second := new(big.Int).Mul(big.NewInt(int64(b)), big.NewInt(int64(y)))
	return first.Add(first, second)
}

// sideByBig is for valid arguments alone.
func sideByBig(h impl.Half, s impl.Spot) int {
	return bigSum(h.A, s.X, h.B, s.Y).Cmp(bigSum(h.C, s.D, 0, 0))
}

// crossingByBig is for valid arguments alone.
func crossingByBig(g impl.Half, h impl.Half) (impl.Spot, bool) {
	det := bigSum(g.A, h.B, -g.B, h.A)
	if det.Sign() == 0 {
		return impl.Spot{}, false
	}
	x := new(big.Rat).SetFrac(bigSum(g.C, h.B, -g.B, h.C), det)
	y := new(big.Rat).SetFrac(bigSum(g.A, h.C, -g.C, h.A), det)
	return spotOfRats(x, y)
}

// angleOf is exact enough to order directions: two that differ are at least 10^-10 apart.
func angleOf(h impl.Half) float64 {
	angle := math.Atan2(float64(h.B), float64(h.A))
	if angle < 0 {
		angle += 2 * math.Pi
	}
	return angle
}

// compareAngles is for valid arguments alone.
func compareAngles(g impl.Half, h impl.Half) int {
	difference := angleOf(g) - angleOf(h)
	switch {
	case difference < -1e-12:
		return -1
	case difference > 1e-12:
		return 1
	}
	return 0
}

// distanceOf returns how far the border is from the origin, measured along the direction in lowest terms.
func distanceOf(h impl.Half) *big.Rat {
	return new(big.Rat).SetFrac(big.NewInt(int64(h.C)), bigGcd(h.A, h.B))
}

// halfInts returns ints of every size, with the limits of a half plane, their neighbours and both ends of the range.
func halfInts() []int {
	list := []int{math.MinInt, math.MinInt + 1, math.MaxInt - 1, math.MaxInt, 0}
	for _, n := range []int{1, 2, 3, 6, maxCoef, 2 * maxCoef, 3 * maxCoef, maxTop, 2 * maxTop, 3 * maxTop, maxCoef << 32, maxTop << 32, 1 << 32, 1 << 62} {
		list = append(list, n-1, n, n+1, -n-1, -n, -n+1)
	}
	return list
}

// validHalves returns valid half planes of every size: small ones, ones at the limits,
// and ones whose direction is not in lowest terms.
func validHalves() []impl.Half {
	var list []impl.Half
	addAll := func(coefs []int, tops []int) {
		for _, a := range coefs {
			for _, b := range coefs {
				for _, c := range tops {
					if h := (impl.Half{A: a, B: b, C: c}); validHalfByBig(h) {
						list = append(list, h)
					}
				}
			}
		}
	}
	addAll([]int{-3, -2, -1, 0, 1, 2, 3}, []int{-5, -1, 0, 1, 2, 7})
	addAll([]int{-maxCoef, 1 - maxCoef, -2, 0, 1, maxCoef / 2, maxCoef - 1, maxCoef}, []int{-maxTop, 1 - maxTop, -3, 0, 1, 50000003, maxTop - 1, maxTop})
	return list
}

func invalidHalves() []impl.Half {
	return []impl.Half{
		{},
		{C: 1},
		{C: -1},
		{C: maxTop},
		{A: 2, B: 2, C: 2},
		{A: 2, B: 4, C: 6},
		{A: -2, B: 4, C: -6},
		{A: 2},
		{B: -2},
		{A: 3, C: 3},
		{B: 5, C: -10},
		{A: 6, B: 9},
		{A: maxCoef},
		{A: maxCoef, B: maxCoef, C: maxTop},
		{A: maxCoef + 1, B: 1, C: 1},
		{A: 1, B: maxCoef + 1, C: 1},
		{A: -maxCoef - 1, B: 1, C: 1},
		{A: 1, B: -maxCoef - 1, C: 1},
		{A: 1, B: 1, C: maxTop + 1},
		{A: 1, B: 1, C: -maxTop - 1},
		{A: math.MaxInt, B: 1, C: 1},
		{A: 1, B: math.MaxInt, C: 1},
		{A: 1, B: 1, C: math.MaxInt},
		{A: math.MinInt, B: 1, C: 1},
		{A: 1, B: math.MinInt, C: 1},
		{A: 1, B: 1, C: math.MinInt},
		{A: 1 << 32, B: 1, C: 1},
		{A: 1, B: 1 << 32, C: 1},
		{A: math.MinInt, B: math.MinInt, C: math.MinInt},
		{A: math.MaxInt, B: math.MinInt, C: math.MaxInt},
	}
}

func checkHalf(t *testing.T, call string, args any, got impl.Half, ok bool, want impl.Half, wantOk bool) {
	t.Helper()
	if got != want || ok != wantOk {
		t.Errorf("%s of %v = %v, %v, want %v, %v", call, args, got, ok, want, wantOk)
	}
}

func TestHalfLimits(t *testing.T) {
	if impl.MaxCoef != maxCoef || impl.MaxTop != maxTop {
		t.Errorf("limits are %d and %d", impl.MaxCoef, impl.MaxTop)
	}
}

func TestHalfOk(t *testing.T) {
	good := []impl.Half{
		{A: 1},
		{A: -1},
		{B: 1},
		{B: -1},
		{A: 1, C: 5},
		{A: 2, C: 5},
		{B: -2, C: 5},
		{A: 1, B: 2, C: 3},
		{A: 2, B: 4, C: 7},
		{A: 6, B: 10, C: 15},
		{A: -6, B: -10, C: -15},
		{A: 2, B: 2, C: -1},
		{A: 2, B: 3, C: 6},
		{A: maxCoef, B: -maxCoef, C: 1},
		{A: -maxCoef, B: maxCoef, C: -1},
		{A: maxCoef, B: maxCoef - 1, C: maxTop},
		{A: -maxCoef, B: 1 - maxCoef, C: -maxTop},
		{A: maxCoef, C: maxTop - 1},
		{B: maxCoef, C: 1 - maxTop},
		{A: 1, C: maxTop},
		{B: 1, C: -maxTop},
	}
	for _, h := range append(good, validHalves()...) {
		if !impl.HalfOk(h) {
			t.Errorf("HalfOk(%v) is false", h)
		}
	}
	for _, h := range invalidHalves() {
		if impl.HalfOk(h) {
			t.Errorf("HalfOk(%v) is true", h)
		}
	}
}

func TestHalfOf(t *testing.T) {
	type made struct{ a, b, c int }
	cases := []struct {
		in   made
		want impl.Half
	}{
		{made{2, 4, 6}, impl.Half{A: 1, B: 2, C: 3}},
		{made{-2, 4, 6}, impl.Half{A: -1, B: 2, C: 3}},
		{made{2, -4, 6}, impl.Half{A: 1, B: -2, C: 3}},
		{made{2, 4, -6}, impl.Half{A: 1, B: 2, C: -3}},
		{made{-2, -4, -6}, impl.Half{A: -1, B: -2, C: -3}},
		{made{1, 2, 3}, impl.Half{A: 1, B: 2, C: 3}},
		{made{2, 4, 7}, impl.Half{A: 2, B: 4, C: 7}},
		{made{2, 5, 4}, impl.Half{A: 2, B: 5, C: 4}},
		{made{3, 4, 6}, impl.Half{A: 3, B: 4, C: 6}},
		{made{6, 10, 15}, impl.Half{A: 6, B: 10, C: 15}},
		{made{4, 0, 0}, impl.Half{A: 1}},
		{made{0, -4, 0}, impl.Half{B: -1}},
		{made{6, 0, 9}, impl.Half{A: 2, C: 3}},
		{made{0, 6, -9}, impl.Half{B: 2, C: -3}},
		{made{6, -9, 0}, impl.Half{A: 2, B: -3}},
		{made{maxCoef, -maxCoef, maxTop - 1}, impl.Half{A: maxCoef, B: -maxCoef, C: maxTop - 1}},
		{made{maxCoef, maxCoef, maxTop}, impl.Half{A: 1, B: 1, C: 2000}},
		{made{maxCoef - 1, 1, -maxTop}, impl.Half{A: maxCoef - 1, B: 1, C: -maxTop}},
		{made{3 * maxCoef, 3, 3 * maxTop}, impl.Half{A: maxCoef, B: 1, C: maxTop}},
		{made{maxCoef + 1, 0, 0}, impl.Half{A: 1}},
		{made{1 << 32, 1 << 33, 3 << 32}, impl.Half{A: 1, B: 2, C: 3}},
		{made{math.MaxInt, 0, 0}, impl.Half{A: 1}},
		{made{math.MaxInt, -math.MaxInt, math.MaxInt}, impl.Half{A: 1, B: -1, C: 1}},
		{made{-math.MaxInt, 0, math.MaxInt / 7}, impl.Half{A: -7, C: 1}},
		{made{math.MinInt, 0, 0}, impl.Half{A: -1}},
		{made{0, math.MinInt, 0}, impl.Half{B: -1}},
		{made{math.MinInt, math.MinInt, 0}, impl.Half{A: -1, B: -1}},
		{made{math.MinInt, 0, math.MinInt}, impl.Half{A: -1, C: -1}},
		{made{math.MinInt, math.MinInt, math.MinInt}, impl.Half{A: -1, B: -1, C: -1}},
		{made{math.MinInt, 1 << 62, 1 << 60}, impl.Half{A: -8, B: 4, C: 1}},
		{made{1 << 62, math.MinInt, -3 << 61}, impl.Half{A: 2, B: -4, C: -3}},
		{made{1 << 37, 3 << 37, math.MinInt}, impl.Half{A: 1, B: 3, C: -1 << 26}},
	}
	for _, c := range cases {
		got, ok := impl.HalfOf(c.in.a, c.in.b, c.in.c)
		checkHalf(t, "HalfOf", c.in, got, ok, c.want, true)
	}
	none := []made{
		{0, 0, 0}, {0, 0, 1}, {0, 0, -1}, {0, 0, 3}, {0, 0, math.MaxInt}, {0, 0, math.MinInt},
		{maxCoef + 1, 1, 0}, {1, maxCoef + 1, 0}, {-maxCoef - 1, 1, 0}, {1, -maxCoef - 1, 0},
		{1, 0, maxTop + 1}, {0, 1, -maxTop - 1}, {2, 2, 2*maxTop + 2}, {2*maxCoef + 2, 2, 2}, {2*maxCoef + 2, 0, 2},
		{maxCoef + 1, 0, 1}, {0, -maxCoef - 1, 1}, {3 * maxCoef, 3, 3*maxTop + 1},
		{math.MaxInt, 1, 1}, {1, math.MaxInt, 1}, {1, 1, math.MaxInt},
		{math.MinInt, 1, 1}, {1, math.MinInt, 1}, {1, 1, math.MinInt},
		{math.MinInt, math.MaxInt, 0}, {math.MinInt, 0, math.MaxInt}, {math.MinInt, math.MinInt, 1},
		{1 << 36, 3 << 36, math.MinInt},
		// Each of these has one coefficient that is within the limits only once it is cut to 32 bits.
		{1<<32 + 1, 1, 1}, {1, 1<<32 + 1, 1}, {1, 1, 1<<32 + 1},
	}
	for _, c := range none {
		got, ok := impl.HalfOf(c.a, c.b, c.c)
		checkHalf(t, "HalfOf", c, got, ok, impl.Half{}, false)
	}
}

func TestHalfOfSweep(t *testing.T) {
	for _, a := range halfInts() {
		for _, b := range halfInts() {
			for _, c := range halfInts() {
				want, wantOk := halfByBig(a, b, c)
				got, ok := impl.HalfOf(a, b, c)
				checkHalf(t, "HalfOf", []int{a, b, c}, got, ok, want, wantOk)
				h := impl.Half{A: a, B: b, C: c}
				if valid := impl.HalfOk(h); valid != (wantOk && want == h) {
					t.Errorf("HalfOk(%v) = %v", h, valid)
				}
			}
		}
	}
}

func TestSideOf(t *testing.T) {
	cases := []struct {
		h    impl.Half
		s    impl.Spot
		want int
	}{
		{impl.Half{A: 1, C: 5}, impl.Spot{X: 5, D: 1}, 0},
		{impl.Half{A: 1, C: 5}, impl.Spot{X: 9, D: 2}, -1},
		{impl.Half{A: 1, C: 5}, impl.Spot{X: 6, D: 1}, 1},
		{impl.Half{A: 1, C: 5}, impl.Spot{X: 11, Y: -3, D: 2}, 1},
		{impl.Half{B: -2, C: 3}, impl.Spot{Y: -3, D: 2}, 0},
		{impl.Half{B: -2, C: 3}, impl.Spot{Y: -1, D: 1}, -1},
		{impl.Half{B: -2, C: 3}, impl.Spot{Y: -2, D: 1}, 1},
		{impl.Half{A: 1, B: 1, C: 1}, impl.Spot{X: 1, Y: 2, D: 3}, 0},
		{impl.Half{A: 1, B: 1, C: 1}, impl.Spot{X: 1, Y: 1, D: 3}, -1},
		{impl.Half{A: 1, B: 1, C: 1}, impl.Spot{X: 2, Y: 2, D: 3}, 1},
		{impl.Half{A: 1, B: -1}, impl.Spot{D: 1}, 0},
		{impl.Half{A: 1, C: -1}, impl.Spot{D: 1}, 1},
		{impl.Half{A: 1, C: 1}, impl.Spot{D: 1}, -1},
		{impl.Half{A: 1}, impl.Spot{X: 1, D: maxDen}, 1},
		{impl.Half{A: 1}, impl.Spot{X: -1, D: maxDen}, -1},
		{impl.Half{A: 1}, impl.Spot{Y: 1, D: maxDen}, 0},
		{impl.Half{A: 1, C: maxPlace}, impl.Spot{X: maxPlace * maxDen, Y: 1, D: maxDen}, 0},
		{impl.Half{A: 1, C: maxPlace}, impl.Spot{X: maxPlace*maxDen - 1, Y: 1, D: maxDen}, -1},
		{impl.Half{A: -1, C: maxPlace}, impl.Spot{X: -maxPlace * maxDen, Y: 1, D: maxDen}, 0},
		{impl.Half{A: -1, C: maxPlace - 1}, impl.Spot{X: -maxPlace * maxDen, Y: 1, D: maxDen}, 1},
		{impl.Half{A: maxCoef, B: maxCoef, C: maxTop - 1}, impl.Spot{X: maxPlace, Y: maxPlace, D: 1}, 1},
		{impl.Half{A: maxCoef, B: maxCoef, C: maxTop - 1}, impl.Spot{X: maxPlace * maxDen, Y: maxPlace*maxDen - 1, D: maxDen}, 1},
		{impl.Half{A: maxCoef, B: maxCoef, C: maxTop - 1}, impl.Spot{X: maxPlace*maxDen - 1, Y: maxPlace*maxDen - 99999, D: maxDen}, 0},
		{impl.Half{A: maxCoef, B: maxCoef, C: maxTop - 1}, impl.Spot{X: maxPlace*maxDen - 1, Y: maxPlace*maxDen - 100000, D: maxDen}, -1},
		{impl.Half{A: maxCoef, B: maxCoef, C: maxTop - 1}, impl.Spot{X: maxPlace*maxDen - 1, Y: maxPlace*maxDen - 99998, D: maxDen}, 1},
		{impl.Half{A: maxCoef, B: maxCoef, C: 1 - maxTop}, impl.Spot{X: -maxPlace * maxDen, Y: 1 - maxPlace*maxDen, D: maxDen}, -1},
		{impl.Half{A: maxCoef, B: maxCoef - 1, C: -maxTop}, impl.Spot{X: maxPlace * maxDen, Y: maxPlace*maxDen - 1, D: maxDen}, 1},
		{impl.Half{A: -maxCoef, B: maxCoef - 1, C: maxTop}, impl.Spot{X: maxPlace * maxDen, Y: 1 - maxPlace*maxDen, D: maxDen}, -1},
		{impl.Half{A: 1, C: maxTop}, impl.Spot{X: maxPlace, D: 1}, -1},
		{impl.Half{A: 1, C: -maxTop}, impl.Spot{X: -maxPlace, D: 1}, 1},
	}
	for _, c := range cases {
		if got := impl.SideOf(c.h, c.s); got != c.want {
			t.Errorf("SideOf(%v, %v) = %d, want %d", c.h, c.s, got, c.want)
		}
		if got := impl.HoldsAt(c.h, c.s); got != (c.want != 1) {
			t.Errorf("HoldsAt(%v, %v) = %v", c.h, c.s, got)
		}
	}
}

func TestSideOfSweep(t *testing.T) {
	spots := validSpots()
	for _, h := range validHalves() {
		for _, s := range spots {
			want := sideByBig(h, s)
			if got := impl.SideOf(h, s); got != want {
				t.Errorf("SideOf(%v, %v) = %d, want %d", h, s, got, want)
			}
			if got := impl.HoldsAt(h, s); got != (want <= 0) {
				t.Errorf("HoldsAt(%v, %v) = %v", h, s, got)
			}
		}
	}
}

// spotNearBorder returns the spot with the least X from 0 at which A*X + B*Y is C*D + off;
// false if B is 0, the direction is not in lowest terms or the spot is not valid.
func spotNearBorder(h impl.Half, d int, off int) (impl.Spot, bool) {
	a, b := big.NewInt(int64(h.A)), big.NewInt(int64(h.B))
	if h.B == 0 || bigGcd(h.A, h.B).Cmp(big.NewInt(1)) != 0 {
		return impl.Spot{}, false
	}
	inverse := new(big.Int).ModInverse(a, new(big.Int).Abs(b))
	target := new(big.Int).Add(bigSum(h.C, d, 0, 0), big.NewInt(int64(off)))
	x := new(big.Int).Mul(inverse, target)
	x.Mod(x, new(big.Int).Abs(b))
	y := new(big.Int).Sub(target, new(big.Int).Mul(a, x))
	y.Quo(y, b)
	if !x.IsInt64() || !y.IsInt64() {
		return impl.Spot{}, false
	}
	s := impl.Spot{X: int(x.Int64()), Y: int(y.Int64()), D: d}
	return s, validSpotByBig(s)
}

// One step of the numerators is the least that a spot can be off the border.
func TestSideOfNextToBorder(t *testing.T) {
	seen := map[int]int{}
	for _, h := range validHalves() {
		for _, d := range []int{1, 2, 3, 999983, maxDen - 1, maxDen} {
			for off := -2; off <= 2; off++ {
				s, ok := spotNearBorder(h, d, off)
				if !ok {
					continue
				}
				want := min(max(off, -1), 1)
				seen[want]++
				if got := impl.SideOf(h, s); got != want {
					t.Errorf("SideOf(%v, %v) = %d, want %d", h, s, got, want)
				}
				if got := impl.HoldsAt(h, s); got != (want <= 0) {
					t.Errorf("HoldsAt(%v, %v) = %v", h, s, got)
				}
			}
		}
	}
	for _, want := range []int{-1, 0, 1} {
		if seen[want] < 100 {
			t.Errorf("only %d spots have the side %d", seen[want], want)
		}
	}
}

func TestSideOfInvalid(t *testing.T) {
	check := func(h impl.Half, s impl.Spot) {
		if got := impl.SideOf(h, s); got != 0 {
			t.Errorf("SideOf(%v, %v) = %d", h, s, got)
		}
		if impl.HoldsAt(h, s) {
			t.Errorf("HoldsAt(%v, %v) is true", h, s)
		}
	}
	halves := []impl.Half{{A: 1, C: 5}, {A: -1, C: -5}, {A: 1, B: 2, C: maxTop}}
	spots := []impl.Spot{{D: 1}, {X: 9, Y: 1, D: 2}, {X: -maxPlace, Y: maxPlace, D: 1}}
	for _, h := range invalidHalves() {
		for _, s := range append(invalidSpots(), spots...) {
			check(h, s)
		}
	}
	for _, s := range invalidSpots() {
		for _, h := range halves {
			check(h, s)
		}
	}
}

func TestOtherSide(t *testing.T) {
	cases := []struct{ h, want impl.Half }{
		{impl.Half{A: 1, C: 5}, impl.Half{A: -1, C: -5}},
		{impl.Half{B: -1}, impl.Half{B: 1}},
		{impl.Half{A: 2, B: -3, C: -7}, impl.Half{A: -2, B: 3, C: 7}},
		{impl.Half{A: maxCoef, B: -maxCoef, C: 1}, impl.Half{A: -maxCoef, B: maxCoef, C: -1}},
		{impl.Half{A: 1, B: maxCoef, C: -maxTop}, impl.Half{A: -1, B: -maxCoef, C: maxTop}},
	}
	for _, c := range cases {
		if got := impl.OtherSide(c.h); got != c.want {
			t.Errorf("OtherSide(%v) = %v, want %v", c.h, got, c.want)
		}
	}
	for _, h := range validHalves() {
		other := impl.OtherSide(h)
		if want := (impl.Half{A: -h.A, B: -h.B, C: -h.C}); other != want || impl.OtherSide(other) != h {
			t.Errorf("OtherSide(%v) = %v", h, other)
		}
		for _, s := range []impl.Spot{{D: 1}, {X: 5, Y: 3, D: 2}, {X: -maxPlace, Y: maxPlace, D: 1}} {
			if impl.SideOf(other, s) != -impl.SideOf(h, s) {
				t.Errorf("SideOf(%v, %v) = %d", other, s, impl.SideOf(other, s))
			}
		}
	}
	for _, h := range invalidHalves() {
		if got := impl.OtherSide(h); got != (impl.Half{}) {
			t.Errorf("OtherSide(%v) = %v", h, got)
		}
	}
}

func TestCrossingOf(t *testing.T) {
	cases := []struct {
		g, h impl.Half
		want impl.Spot
	}{
		{impl.Half{A: 2, B: 1, C: 3}, impl.Half{B: 1, C: 2}, impl.Spot{X: 1, Y: 4, D: 2}},
		{impl.Half{A: 1}, impl.Half{B: 1}, impl.Spot{D: 1}},
		{impl.Half{A: 1, C: 3}, impl.Half{B: 1, C: -4}, impl.Spot{X: 3, Y: -4, D: 1}},
		{impl.Half{A: -1, C: 3}, impl.Half{B: 1, C: -4}, impl.Spot{X: -3, Y: -4, D: 1}},
		{impl.Half{A: 1, B: 1, C: 4}, impl.Half{A: 1, B: -1, C: 2}, impl.Spot{X: 3, Y: 1, D: 1}},
		{impl.Half{A: 1, B: 1, C: 1}, impl.Half{A: 1, B: -1}, impl.Spot{X: 1, Y: 1, D: 2}},
		{impl.Half{A: 2, C: 1}, impl.Half{B: 3, C: 1}, impl.Spot{X: 3, Y: 2, D: 6}},
		{impl.Half{A: 4, C: 1}, impl.Half{B: 6, C: 1}, impl.Spot{X: 3, Y: 2, D: 12}},
		{impl.Half{A: maxCoef, C: 1}, impl.Half{B: maxCoef, C: 1}, impl.Spot{X: 1, Y: 1, D: maxCoef}},
		{impl.Half{A: maxCoef, C: 1}, impl.Half{B: maxCoef - 1, C: 1}, impl.Spot{X: maxCoef - 1, Y: maxCoef, D: maxCoef * (maxCoef - 1)}},
		{impl.Half{A: maxCoef, B: maxCoef, C: 1}, impl.Half{A: -maxCoef, B: maxCoef, C: 3}, impl.Spot{X: -1, Y: 2, D: maxCoef}},
		{impl.Half{A: maxCoef, B: maxCoef - 1, C: 1}, impl.Half{A: 1 - maxCoef, B: maxCoef}, impl.Spot{X: maxCoef, Y: maxCoef - 1, D: 4999900001}},
		{impl.Half{A: 1, C: maxPlace}, impl.Half{B: 1, C: -maxPlace}, impl.Spot{X: maxPlace, Y: -maxPlace, D: 1}},
		{impl.Half{A: 1, B: 1, C: 2 * maxPlace}, impl.Half{A: 1, B: -1}, impl.Spot{X: maxPlace, Y: maxPlace, D: 1}},
		{impl.Half{A: maxCoef, B: maxCoef - 1, C: maxCoef * maxPlace}, impl.Half{B: 1}, impl.Spot{X: maxPlace, D: 1}},
		{impl.Half{A: 40000, B: 30001, C: 70001000}, impl.Half{A: 1, B: -1}, impl.Spot{X: maxPlace, Y: maxPlace, D: 1}},
	}
	for _, c := range cases {
		for _, g := range []impl.Half{c.g, impl.OtherSide(c.g)} {
			for _, h := range []impl.Half{c.h, impl.OtherSide(c.h)} {
				got, ok := impl.CrossingOf(g, h)
				checkSpot(t, "CrossingOf", []impl.Half{g, h}, got, ok, c.want, true)
				got, ok = impl.CrossingOf(h, g)
				checkSpot(t, "CrossingOf", []impl.Half{h, g}, got, ok, c.want, true)
			}
		}
	}
	none := [][2]impl.Half{
		{{A: 1, C: 5}, {A: 1, C: 6}},
		{{A: 1, C: 5}, {A: 1, C: 5}},
		{{A: 1, C: 5}, {A: -1, C: -5}},
		{{A: 1, C: 5}, {A: -1, C: 5}},
		{{A: 1, C: 5}, {A: 2, C: 3}},
		{{B: 1}, {B: -1}},
		{{A: 2, B: 4, C: 1}, {A: 1, B: 2, C: 1}},
		{{A: 2, B: 4, C: 1}, {A: -3, B: -6, C: 1}},
		{{A: maxCoef, B: maxCoef, C: 1}, {A: 1, B: 1, C: maxTop}},
		{{A: maxCoef, B: -maxCoef, C: 1}, {A: -1, B: 1}},
		{{A: 1, C: maxPlace + 1}, {B: 1}},
		{{A: 1}, {B: 1, C: maxPlace + 1}},
		{{A: 1}, {B: 1, C: -maxPlace - 1}},
		{{A: 2, C: 2*maxPlace + 1}, {B: 1}},
		{{A: 1, C: maxTop}, {B: 1, C: -maxTop}},
		{{A: maxCoef, B: maxCoef - 1, C: maxTop}, {A: maxCoef - 1, B: maxCoef - 2, C: -maxTop}},
		{{A: maxCoef, C: maxCoef*maxPlace + 1}, {A: 1, B: maxCoef, C: maxTop}},
		{{A: maxCoef, B: 1, C: maxTop}, {A: maxCoef, B: -1, C: maxTop - 1}},
	}
	for _, c := range none {
		got, ok := impl.CrossingOf(c[0], c[1])
		checkSpot(t, "CrossingOf", c, got, ok, impl.Spot{}, false)
		got, ok = impl.CrossingOf(c[1], c[0])
		checkSpot(t, "CrossingOf", c, got, ok, impl.Spot{}, false)
	}
}

// forHalfPairs calls use with every pair of valid half planes, each also with itself.
func forHalfPairs(use func(g impl.Half, h impl.Half)) {
	list := validHalves()
	for _, g := range list {
		for _, h := range list {
			use(g, h)
		}
	}
}

func TestCrossingOfSweep(t *testing.T) {
	forHalfPairs(func(g impl.Half, h impl.Half) {
		want, wantOk := crossingByBig(g, h)
		got, ok := impl.CrossingOf(g, h)
		if got != want || ok != wantOk {
			t.Errorf("CrossingOf(%v, %v) = %v, %v, want %v, %v", g, h, got, ok, want, wantOk)
		}
		if ok && (impl.SideOf(g, got) != 0 || impl.SideOf(h, got) != 0) {
			t.Errorf("CrossingOf(%v, %v) = %v is not on both borders", g, h, got)
		}
	})
}

// roundOfDirections returns half planes ordered by their angle, all of them different.
func roundOfDirections() []impl.Half {
	return []impl.Half{
		{A: 1, C: 5},
		{A: maxCoef, B: 1, C: -3},
		{A: 2, B: 1},
		{A: maxCoef, B: maxCoef - 1, C: maxTop},
		{A: 1, B: 1, C: 1},
		{A: maxCoef - 1, B: maxCoef},
		{A: 1, B: 3, C: -maxTop},
		{A: 1, B: maxCoef},
		{B: 1, C: 1},
		{A: -1, B: maxCoef},
		{A: -1, B: 2},
		{A: -maxCoef, B: maxCoef, C: 1},
		{A: -3, B: 1},
		{A: -maxCoef, B: 1},
		{A: -1, C: 1},
		{A: -maxCoef, B: -1},
		{A: -2, B: -1},
		{A: -maxCoef, B: 1 - maxCoef},
		{A: -1, B: -1},
		{A: 1 - maxCoef, B: -maxCoef},
		{A: -1, B: -4},
		{A: -1, B: -maxCoef},
		{B: -1},
		{A: 1, B: -maxCoef},
		{A: 1, B: -2},
		{A: 1, B: -1, C: 9},
		{A: 5, B: -1},
		{A: maxCoef, B: -1},
	}
}

func TestBeforeAngle(t *testing.T) {
	round := roundOfDirections()
	for i, g := range round {
		for k, h := range round {
			if got := impl.BeforeAngle(g, h); got != (i < k) {
				t.Errorf("BeforeAngle(%v, %v) = %v", g, h, got)
			}
			if got := impl.SameDirection(g, h); got != (i == k) {
				t.Errorf("SameDirection(%v, %v) = %v", g, h, got)
			}
		}
	}
}

func TestSameDirection(t *testing.T) {
	same := [][2]impl.Half{
		{{A: 1, C: 5}, {A: 2, C: 3}},
		{{A: -1, C: 5}, {A: -7, C: -3}},
		{{B: 1}, {B: maxCoef, C: 1}},
		{{B: -1}, {B: -maxCoef, C: 1}},
		{{A: 1, B: 2, C: 1}, {A: 2, B: 4, C: 1}},
		{{A: -2, B: 4, C: 1}, {A: -3, B: 6, C: 1}},
		{{A: -2, B: -4, C: 1}, {A: -3, B: -6, C: 1}},
		{{A: 2, B: -4, C: 1}, {A: 3, B: -6, C: 1}},
		{{A: maxCoef, B: maxCoef, C: 1}, {A: 1, B: 1, C: maxTop}},
		{{A: maxCoef, B: -maxCoef, C: 1}, {A: maxCoef - 1, B: 1 - maxCoef, C: 1}},
	}
	for _, c := range same {
		for _, p := range [][2]impl.Half{{c[0], c[1]}, {c[1], c[0]}, {c[0], c[0]}} {
			if !impl.SameDirection(p[0], p[1]) {
				t.Errorf("SameDirection(%v, %v) is false", p[0], p[1])
			}
			if impl.BeforeAngle(p[0], p[1]) {
				t.Errorf("BeforeAngle(%v, %v) is true", p[0], p[1])
			}
		}
		for _, p := range [][2]impl.Half{{c[0], impl.OtherSide(c[1])}, {impl.OtherSide(c[1]), c[0]}} {
			if impl.SameDirection(p[0], p[1]) {
				t.Errorf("SameDirection(%v, %v) is true", p[0], p[1])
			}
		}
	}
}

func TestAnglesSweep(t *testing.T) {
	forHalfPairs(func(g impl.Half, h impl.Half) {
		want := compareAngles(g, h)
		if got := impl.BeforeAngle(g, h); got != (want < 0) {
			t.Errorf("BeforeAngle(%v, %v) = %v", g, h, got)
		}
		if got := impl.SameDirection(g, h); got != (want == 0) {
			t.Errorf("SameDirection(%v, %v) = %v", g, h, got)
		}
	})
}

func TestTighterHalf(t *testing.T) {
	cases := []struct{ tight, wide impl.Half }{
		{impl.Half{A: 2, C: 3}, impl.Half{A: 1, C: 5}},
		{impl.Half{A: 1, C: 1}, impl.Half{A: 2, C: 3}},
		{impl.Half{A: 1, C: -2}, impl.Half{A: 2, C: -3}},
		{impl.Half{A: 1, C: 5}, impl.Half{A: 1, C: 6}},
		{impl.Half{A: -1, C: -6}, impl.Half{A: -1, C: -5}},
		{impl.Half{B: -3, C: -1}, impl.Half{B: -1}},
		{impl.Half{B: -1}, impl.Half{B: -3, C: 1}},
		{impl.Half{B: 3, C: 2}, impl.Half{B: 4, C: 3}},
		{impl.Half{A: 2, B: -4, C: 1}, impl.Half{A: 1, B: -2, C: 1}},
		{impl.Half{A: -3, B: 6, C: 1}, impl.Half{A: -2, B: 4, C: 1}},
		{impl.Half{A: maxCoef, B: maxCoef, C: maxTop - 1}, impl.Half{A: 1, B: 1, C: 2000}},
		{impl.Half{A: 1, B: 1, C: -2000}, impl.Half{A: maxCoef, B: maxCoef, C: 1 - maxTop}},
		{impl.Half{A: maxCoef, B: -maxCoef, C: maxTop - 1}, impl.Half{A: maxCoef - 1, B: 1 - maxCoef, C: maxTop - 1}},
		{impl.Half{A: maxCoef, B: -maxCoef, C: 1 - maxTop}, impl.Half{A: 1, B: -1, C: maxTop}},
		{impl.Half{A: 1, C: -maxTop}, impl.Half{A: 1, C: maxTop}},
	}
	for _, c := range cases {
		for _, p := range [][2]impl.Half{{c.tight, c.wide}, {c.wide, c.tight}, {c.tight, c.tight}} {
			if got := impl.TighterHalf(p[0], p[1]); got != c.tight {
				t.Errorf("TighterHalf(%v, %v) = %v, want %v", p[0], p[1], got, c.tight)
			}
		}
	}
}

func TestTighterHalfSweep(t *testing.T) {
	forHalfPairs(func(g impl.Half, h impl.Half) {
		var want impl.Half
		if compareAngles(g, h) == 0 {
			want = g
			if distanceOf(h).Cmp(distanceOf(g)) < 0 {
				want = h
			}
		}
		if got := impl.TighterHalf(g, h); got != want {
			t.Errorf("TighterHalf(%v, %v) = %v, want %v", g, h, got, want)
		}
	})
}

func TestPairsOfHalvesInvalid(t *testing.T) {
	check := func(g impl.Half, h impl.Half) {
		got, ok := impl.CrossingOf(g, h)
		checkSpot(t, "CrossingOf", []impl.Half{g, h}, got, ok, impl.Spot{}, false)
		if impl.BeforeAngle(g, h) {
			t.Errorf("BeforeAngle(%v, %v) is true", g, h)
		}
		if impl.SameDirection(g, h) {
			t.Errorf("SameDirection(%v, %v) is true", g, h)
		}
		if tight := impl.TighterHalf(g, h); tight != (impl.Half{}) {
			t.Errorf("TighterHalf(%v, %v) = %v", g, h, tight)
		}
	}
	for _, bad := range invalidHalves() {
		for _, h := range append(invalidHalves(), roundOfDirections()...) {
			check(bad, h)
			check(h, bad)
		}
	}
}

func TestThroughSpots(t *testing.T) {
	at := func(x int, y int) impl.Spot {
		return impl.Spot{X: x, Y: y, D: 1}
	}
	cases := []struct {
		p, q impl.Spot
		want impl.Half
	}{
		{at(0, 0), at(4, 0), impl.Half{B: -1}},
		{at(4, 0), at(0, 0), impl.Half{B: 1}},
		{at(0, 0), at(0, 4), impl.Half{A: 1}},
		{at(0, 4), at(0, 0), impl.Half{A: -1}},
		{at(3, 1), at(3, 2), impl.Half{A: 1, C: 3}},
		{at(1, 3), at(2, 3), impl.Half{B: -1, C: -3}},
		{at(1, 0), at(0, 1), impl.Half{A: 1, B: 1, C: 1}},
		{at(0, 1), at(1, 0), impl.Half{A: -1, B: -1, C: -1}},
		{at(1, 2), at(4, 4), impl.Half{A: 2, B: -3, C: -4}},
		{at(-2, -2), at(2, 4), impl.Half{A: 3, B: -2, C: -2}},
		{at(maxPlace, maxPlace), at(-maxPlace, -maxPlace), impl.Half{A: -1, B: 1}},
		{at(maxPlace, -maxPlace), at(maxPlace, maxPlace), impl.Half{A: 1, C: maxPlace}},
		{at(maxPlace, maxPlace), at(-maxPlace, 1-maxPlace), impl.Half{A: -1999, B: 2000, C: maxPlace}},
		{at(-maxPlace, maxPlace), at(maxPlace, 1-maxPlace), impl.Half{A: -1999, B: -2000, C: -maxPlace}},
		{at(-maxPlace, maxPlace), at(1-maxPlace, -maxPlace), impl.Half{A: -2000, B: -1, C: 1999000}},
	}
	for _, c := range cases {
		got, ok := impl.ThroughSpots(c.p, c.q)
		checkHalf(t, "ThroughSpots", []impl.Spot{c.p, c.q}, got, ok, c.want, true)
		got, ok = impl.ThroughSpots(c.q, c.p)
		checkHalf(t, "ThroughSpots", []impl.Spot{c.q, c.p}, got, ok, impl.OtherSide(c.want), true)
	}
}

// The limits of a spot leave whole spots too close to each other for a half plane beyond its own limits,
// so every pair of different ones has a half plane.
func TestThroughSpotsSweep(t *testing.T) {
	places := []int{-maxPlace, 1 - maxPlace, -500, -7, -1, 0, 1, 2, 6, 333, maxPlace - 1, maxPlace}
	var spots []impl.Spot
	for _, x := range places {
		for _, y := range places {
			spots = append(spots, impl.Spot{X: x, Y: y, D: 1})
		}
	}
	for _, p := range spots {
		for _, q := range spots {
			got, ok := impl.ThroughSpots(p, q)
			if p == q {
				checkHalf(t, "ThroughSpots", []impl.Spot{p, q}, got, ok, impl.Half{}, false)
				continue
			}
			left := impl.Spot{X: p.X - (q.Y - p.Y), Y: p.Y + (q.X - p.X), D: 1}
			if !ok || !validHalfByBig(got) || sideByBig(got, p) != 0 || sideByBig(got, q) != 0 || sideByBig(got, left) != -1 {
				t.Errorf("ThroughSpots(%v, %v) = %v, %v", p, q, got, ok)
			}
		}
	}
}

func TestThroughSpotsInvalid(t *testing.T) {
	whole := []impl.Spot{{D: 1}, {X: 1, D: 1}, {X: -maxPlace, Y: maxPlace, D: 1}}
	bad := append(invalidSpots(), impl.Spot{X: 1, D: 2}, impl.Spot{X: 1, Y: 2, D: 3}, impl.Spot{X: maxPlace * maxDen, Y: 1, D: maxDen})
	for _, b := range bad {
		for _, s := range append(bad, whole...) {
			got, ok := impl.ThroughSpots(b, s)
			checkHalf(t, "ThroughSpots", []impl.Spot{b, s}, got, ok, impl.Half{}, false)
			got, ok = impl.ThroughSpots(s, b)
			checkHalf(t, "ThroughSpots", []impl.Spot{s, b}, got, ok, impl.Half{}, false)
		}
	}
}
