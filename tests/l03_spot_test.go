package tests

import (
	"math"
	"math/big"
	"testing"

	"loop.example/g00832/impl"
)

const (
	maxPlace   = 1000
	maxDen     = 5000000000
	maxHalfDen = 1000000
)

// spotOfRats returns the valid spot at x, y, and the zero value and false if there is none.
func spotOfRats(x *big.Rat, y *big.Rat) (impl.Spot, bool) {
	limit := big.NewRat(maxPlace, 1)
	for _, c := range []*big.Rat{x, y} {
		if new(big.Rat).Abs(c).Cmp(limit) > 0 {
			return impl.Spot{}, false
		}
	}
	// The least denominator of both coordinates is that of the spot in lowest terms.
	shared := new(big.Int).GCD(nil, nil, x.Denom(), y.Denom())
	den := new(big.Int).Mul(x.Denom(), y.Denom())
	den.Div(den, shared)
	if den.Cmp(big.NewInt(maxDen)) > 0 {
		return impl.Spot{}, false
	}
	scale := new(big.Rat).SetInt(den)
	top := func(c *big.Rat) int {
		return int(new(big.Rat).Mul(c, scale).Num().Int64())
	}
	return impl.Spot{X: top(x), Y: top(y), D: int(den.Int64())}, true
}

func spotByBig(x int, y int, d int) (impl.Spot, bool) {
	if d <= 0 {
		return impl.Spot{}, false
	}
	return spotOfRats(big.NewRat(int64(x), int64(d)), big.NewRat(int64(y), int64(d)))
}

// validSpotByBig relies on a spot being valid exactly if it is its own reduced form.
func validSpotByBig(s impl.Spot) bool {
	r, ok := spotByBig(s.X, s.Y, s.D)
	return ok && r == s
}

func spotRats(s impl.Spot) (*big.Rat, *big.Rat) {
	return big.NewRat(int64(s.X), int64(s.D)), big.NewRat(int64(s.Y), int64(s.D))
}

// spotInts returns ints of every size, with the limits of a spot, their neighbours and both ends of the range.
func spotInts() []int {
	list := []int{math.MinInt, math.MinInt + 1, math.MaxInt - 1, math.MaxInt, 0}
	for _, n := range []int{1, 2, 3, 6, maxPlace, maxPlace + 1, 2 * maxPlace, 3 * maxPlace, maxHalfDen, maxDen, 2 * maxDen, maxPlace * maxDen, 2 * maxPlace * maxDen, 1 << 32, 1 << 53, 1 << 62} {
		list = append(list, n-1, n, n+1, -n-1, -n, -n+1)
	}
	return list
}

// validSpots returns valid spots of every size: small ones, ones at the limits, and ones whose coordinates have different denominators.
func validSpots() []impl.Spot {
	var list []impl.Spot
	add := func(x int, y int, d int) {
		if s := (impl.Spot{X: x, Y: y, D: d}); validSpotByBig(s) {
			list = append(list, s)
		}
	}
	for d := 1; d <= 6; d++ {
		for x := -4; x <= 4; x++ {
			for y := -4; y <= 4; y++ {
				add(x, y, d)
			}
		}
	}
	for _, d := range []int{1, 2, 7, 30, 999983, maxHalfDen - 1, maxHalfDen, maxHalfDen + 1, maxDen/2 - 1, maxDen / 2, maxDen - 1, maxDen} {
		far := maxPlace * d
		for _, x := range []int{-far, -far + 1, -d, 0, 2, d / 2, far - 1, far} {
			for _, y := range []int{-far, -1, 0, 1, d / 6, far - 3, far} {
				add(x, y, d)
			}
		}
	}
	return list
}

func invalidSpots() []impl.Spot {
	return []impl.Spot{
		{},
		{X: 1, Y: 1},
		{X: 1, Y: 1, D: -1},
		{X: -1, Y: -1, D: -1},
		{X: 2, Y: 4, D: 6},
		{X: 2, Y: 4, D: 2},
		{X: -2, Y: 4, D: 6},
		{X: 0, Y: 0, D: 2},
		{X: 0, Y: 3, D: 3},
		{X: 3, Y: 0, D: 3},
		{X: 0, Y: 0, D: maxDen},
		{X: maxPlace + 1, Y: 0, D: 1},
		{X: 0, Y: maxPlace + 1, D: 1},
		{X: -maxPlace - 1, Y: 0, D: 1},
		{X: 0, Y: -maxPlace - 1, D: 1},
		{X: 2*maxPlace + 1, Y: 1, D: 2},
		{X: 1, Y: -2*maxPlace - 1, D: 2},
		{X: maxPlace*maxDen + 1, Y: 1, D: maxDen},
		{X: 1, Y: -maxPlace*maxDen - 1, D: maxDen},
		{X: 1, Y: 1, D: maxDen + 1},
		{X: math.MaxInt, Y: 1, D: 1},
		{X: 1, Y: math.MaxInt, D: 1},
		{X: math.MinInt, Y: 1, D: 1},
		{X: 1, Y: math.MinInt, D: 1},
		{X: math.MinInt, Y: math.MinInt, D: 3},
		{X: 1, Y: 1, D: math.MaxInt},
		{X: 1, Y: 1, D: math.MinInt},
		{X: math.MinInt, Y: math.MinInt, D: math.MinInt},
	}
}

func checkSpot(t *testing.T, call string, args any, got impl.Spot, ok bool, want impl.Spot, wantOk bool) {
	t.Helper()
	if got != want || ok != wantOk {
		t.Errorf("%s of %v = %v, %v, want %v, %v", call, args, got, ok, want, wantOk)
	}
}

func TestSpotLimits(t *testing.T) {
	if impl.MaxPlace != maxPlace || impl.MaxDen != maxDen {
		t.Errorf("limits are %d and %d", impl.MaxPlace, impl.MaxDen)
	}
}

func TestSpotOk(t *testing.T) {
	good := []impl.Spot{
		{X: 0, Y: 0, D: 1},
		{X: 0, Y: 1, D: 2},
		{X: 1, Y: 0, D: 2},
		{X: 2, Y: 3, D: 6},
		{X: -3, Y: 4, D: 6},
		{X: 4, Y: -6, D: 9},
		{X: maxPlace, Y: -maxPlace, D: 1},
		{X: -maxPlace, Y: maxPlace, D: 1},
		{X: 2*maxPlace - 1, Y: 1 - 2*maxPlace, D: 2},
		{X: 2 * maxPlace, Y: -1, D: 2},
		{X: 1, Y: -2 * maxPlace, D: 2},
		{X: 1, Y: 0, D: maxDen},
		{X: 0, Y: -1, D: maxDen},
		{X: maxPlace * maxDen, Y: -1, D: maxDen},
		{X: 1, Y: -maxPlace * maxDen, D: maxDen},
	}
	for _, s := range append(good, validSpots()...) {
		if !impl.SpotOk(s) {
			t.Errorf("SpotOk(%v) is false", s)
		}
	}
	for _, s := range invalidSpots() {
		if impl.SpotOk(s) {
			t.Errorf("SpotOk(%v) is true", s)
		}
	}
}

func TestSpotOf(t *testing.T) {
	type made struct{ x, y, d int }
	cases := []struct {
		in   made
		want impl.Spot
	}{
		{made{4, 6, 2}, impl.Spot{X: 2, Y: 3, D: 1}},
		{made{4, 6, 8}, impl.Spot{X: 2, Y: 3, D: 4}},
		{made{-4, 6, 8}, impl.Spot{X: -2, Y: 3, D: 4}},
		{made{4, -6, 8}, impl.Spot{X: 2, Y: -3, D: 4}},
		{made{4, 7, 8}, impl.Spot{X: 4, Y: 7, D: 8}},
		{made{4, 6, 9}, impl.Spot{X: 4, Y: 6, D: 9}},
		{made{3, 8, 9}, impl.Spot{X: 3, Y: 8, D: 9}},
		{made{0, 0, 1}, impl.Spot{D: 1}},
		{made{0, 0, 12}, impl.Spot{D: 1}},
		{made{0, 0, math.MaxInt}, impl.Spot{D: 1}},
		{made{0, 9, 6}, impl.Spot{Y: 3, D: 2}},
		{made{-9, 0, 6}, impl.Spot{X: -3, D: 2}},
		{made{maxPlace, -maxPlace, 1}, impl.Spot{X: maxPlace, Y: -maxPlace, D: 1}},
		{made{2 * maxPlace, 0, 2}, impl.Spot{X: maxPlace, D: 1}},
		{made{1, 1, maxDen}, impl.Spot{X: 1, Y: 1, D: maxDen}},
		{made{2, -2, 2 * maxDen}, impl.Spot{X: 1, Y: -1, D: maxDen}},
		{made{maxPlace * maxDen, -1, maxDen}, impl.Spot{X: maxPlace * maxDen, Y: -1, D: maxDen}},
		{made{3 * maxPlace * maxDen, -3, 3 * maxDen}, impl.Spot{X: maxPlace * maxDen, Y: -1, D: maxDen}},
		{made{math.MinInt, 0, 1 << 62}, impl.Spot{X: -2, D: 1}},
		{made{0, math.MinInt, 1 << 54}, impl.Spot{Y: -512, D: 1}},
		{made{math.MinInt, 1 << 61, 1 << 62}, impl.Spot{X: -4, Y: 1, D: 2}},
		{made{math.MinInt, math.MinInt, 1 << 60}, impl.Spot{X: -8, Y: -8, D: 1}},
		{made{math.MinInt, math.MinInt, 3 << 60}, impl.Spot{X: -8, Y: -8, D: 3}},
		{made{math.MaxInt, -math.MaxInt, math.MaxInt}, impl.Spot{X: 1, Y: -1, D: 1}},
		{made{math.MaxInt, 0, math.MaxInt / 7}, impl.Spot{X: 7, D: 1}},
	}
	for _, c := range cases {
		got, ok := impl.SpotOf(c.in.x, c.in.y, c.in.d)
		checkSpot(t, "SpotOf", c.in, got, ok, c.want, true)
	}
	none := []made{
		{1, 1, 0}, {0, 0, 0}, {1, 1, -1}, {-4, -6, -2}, {0, 0, -1},
		{0, 0, math.MinInt}, {math.MinInt, math.MinInt, math.MinInt}, {math.MinInt, math.MinInt, -1},
		{maxPlace + 1, 0, 1}, {0, maxPlace + 1, 1}, {-maxPlace - 1, 0, 1}, {0, -maxPlace - 1, 1},
		{2*maxPlace + 1, 0, 2}, {0, -2*maxPlace - 1, 2}, {2*maxPlace + 2, 0, 2},
		{1, 0, maxDen + 1}, {0, 1, maxDen + 1}, {2, 1, 2 * maxDen}, {2, 2, 2*maxDen + 2},
		{maxPlace*maxDen + 1, 0, maxDen}, {0, -maxPlace*maxDen - 1, maxDen},
		{1, 1, math.MaxInt}, {math.MaxInt, 1, math.MaxInt}, {math.MinInt, 0, math.MaxInt},
		{math.MinInt, 0, 1}, {0, math.MinInt, 1}, {math.MinInt, 1, 1 << 62}, {math.MaxInt, math.MaxInt, 1},
		{math.MinInt, 0, 1 << 53},
	}
	for _, c := range none {
		got, ok := impl.SpotOf(c.x, c.y, c.d)
		checkSpot(t, "SpotOf", c, got, ok, impl.Spot{}, false)
	}
}

func TestSpotOfSweep(t *testing.T) {
	for _, x := range spotInts() {
		for _, y := range spotInts() {
			for _, d := range spotInts() {
				want, wantOk := spotByBig(x, y, d)
				got, ok := impl.SpotOf(x, y, d)
				checkSpot(t, "SpotOf", []int{x, y, d}, got, ok, want, wantOk)
				s := impl.Spot{X: x, Y: y, D: d}
				if valid := impl.SpotOk(s); valid != (wantOk && want == s) {
					t.Errorf("SpotOk(%v) = %v", s, valid)
				}
			}
		}
	}
}

func TestSpotOfReducesEveryMultiple(t *testing.T) {
	for _, s := range validSpots() {
		for _, k := range []int{1, 2, 3, 10, 210, 1000003} {
			got, ok := impl.SpotOf(k*s.X, k*s.Y, k*s.D)
			checkSpot(t, "SpotOf a multiple", s, got, ok, s, true)
		}
	}
}

func TestSameSpot(t *testing.T) {
	list := append(invalidSpots(), validSpots()[:200]...)
	for i, a := range list {
		for j, b := range list {
			same := a.X == b.X && a.Y == b.Y && a.D == b.D
			if got := impl.SameSpot(a, b); got != same {
				t.Errorf("SameSpot of %d: %v and %d: %v = %v", i, a, j, b, got)
			}
		}
	}
	s := impl.Spot{X: 1, Y: 2, D: 3}
	for _, other := range []impl.Spot{{X: 2, Y: 2, D: 3}, {X: 1, Y: 1, D: 3}, {X: 1, Y: 2, D: 5}, {X: 2, Y: 4, D: 6}, {X: 2, Y: 1, D: 3}, {X: -1, Y: -2, D: -3}} {
		if impl.SameSpot(s, other) || impl.SameSpot(other, s) {
			t.Errorf("%v and %v are not the same", s, other)
		}
	}
}

func TestIsWhole(t *testing.T) {
	for _, s := range validSpots() {
		if got := impl.IsWhole(s); got != (s.D == 1) {
			t.Errorf("IsWhole(%v) = %v", s, got)
		}
	}
	for _, s := range invalidSpots() {
		if impl.IsWhole(s) {
			t.Errorf("IsWhole(%v) is true", s)
		}
	}
	for _, s := range []impl.Spot{{D: 1}, {X: maxPlace, Y: -maxPlace, D: 1}, {X: -3, Y: 7, D: 1}} {
		if !impl.IsWhole(s) {
			t.Errorf("IsWhole(%v) is false", s)
		}
	}
}

func TestShiftSpot(t *testing.T) {
	cases := []struct {
		s      impl.Spot
		dx, dy int
		want   impl.Spot
	}{
		{impl.Spot{X: 1, Y: 1, D: 2}, 1, -1, impl.Spot{X: 3, Y: -1, D: 2}},
		{impl.Spot{X: 1, Y: 1, D: 2}, 0, 0, impl.Spot{X: 1, Y: 1, D: 2}},
		{impl.Spot{X: 5, Y: -2, D: 1}, -5, 2, impl.Spot{D: 1}},
		{impl.Spot{X: 2, Y: 3, D: 6}, 0, 4, impl.Spot{X: 2, Y: 27, D: 6}},
		{impl.Spot{X: -maxPlace, Y: maxPlace, D: 1}, 2 * maxPlace, -2 * maxPlace, impl.Spot{X: maxPlace, Y: -maxPlace, D: 1}},
		{impl.Spot{X: maxPlace, Y: -maxPlace, D: 1}, -2 * maxPlace, 2 * maxPlace, impl.Spot{X: -maxPlace, Y: maxPlace, D: 1}},
		{impl.Spot{X: -maxPlace * maxDen, Y: 1, D: maxDen}, 2 * maxPlace, maxPlace - 1, impl.Spot{X: maxPlace * maxDen, Y: (maxPlace-1)*maxDen + 1, D: maxDen}},
		{impl.Spot{X: 1, Y: 1, D: 2}, maxPlace - 1, -maxPlace, impl.Spot{X: 2*maxPlace - 1, Y: 1 - 2*maxPlace, D: 2}},
	}
	for _, c := range cases {
		got, ok := impl.ShiftSpot(c.s, c.dx, c.dy)
		checkSpot(t, "ShiftSpot", []any{c.s, c.dx, c.dy}, got, ok, c.want, true)
	}
	low, high := impl.Spot{X: -maxPlace, Y: -maxPlace, D: 1}, impl.Spot{X: maxPlace, Y: maxPlace, D: 1}
	none := []struct {
		s      impl.Spot
		dx, dy int
	}{
		{high, 1, 0}, {high, 0, 1}, {low, -1, 0}, {low, 0, -1},
		{low, 2*maxPlace + 1, 0}, {low, 0, 2*maxPlace + 1}, {high, -2*maxPlace - 1, 0}, {high, 0, -2*maxPlace - 1},
		{impl.Spot{X: 1, Y: 1, D: 2}, maxPlace, 0}, {impl.Spot{X: 1, Y: 1, D: 2}, 0, maxPlace},
		{impl.Spot{X: 1, Y: 1, D: 2}, -maxPlace - 1, 0}, {impl.Spot{X: 1, Y: 1, D: 2}, 0, -maxPlace - 1},
		{impl.Spot{D: 1}, math.MinInt, 0}, {impl.Spot{D: 1}, 0, math.MinInt},
		{impl.Spot{D: 1}, math.MaxInt, 0}, {impl.Spot{D: 1}, 0, math.MaxInt},
		// These moves wrap around to a place within the limits if they are multiplied by D.
		{impl.Spot{X: 1, Y: 1, D: 4}, 1 << 62, 0}, {impl.Spot{X: 1, Y: 1, D: 4}, 0, 1 << 62},
		{impl.Spot{X: 1, Y: 1, D: 2}, math.MinInt, 0}, {impl.Spot{X: 1, Y: 1, D: 2}, 0, math.MinInt},
	}
	for _, c := range none {
		got, ok := impl.ShiftSpot(c.s, c.dx, c.dy)
		checkSpot(t, "ShiftSpot", []any{c.s, c.dx, c.dy}, got, ok, impl.Spot{}, false)
	}
	for _, s := range invalidSpots() {
		for _, move := range []int{-maxPlace - 1, -1, 0, 1, math.MinInt, math.MaxInt} {
			got, ok := impl.ShiftSpot(s, move, move)
			checkSpot(t, "ShiftSpot", []any{s, move, move}, got, ok, impl.Spot{}, false)
		}
	}
}

func TestShiftSpotSweep(t *testing.T) {
	moves := []int{math.MinInt, -2*maxPlace - 1, -2 * maxPlace, -maxPlace, -1, 0, 1, 3, maxPlace - 1, maxPlace + 1, 2*maxPlace - 1, 2 * maxPlace, 2*maxPlace + 1, math.MaxInt}
	for _, s := range validSpots() {
		x, y := spotRats(s)
		for _, dx := range moves {
			for _, dy := range moves {
				var want impl.Spot
				wantOk := within(dx, -2*maxPlace, 2*maxPlace) && within(dy, -2*maxPlace, 2*maxPlace)
				if wantOk {
					want, wantOk = spotOfRats(new(big.Rat).Add(x, big.NewRat(int64(dx), 1)), new(big.Rat).Add(y, big.NewRat(int64(dy), 1)))
				}
				got, ok := impl.ShiftSpot(s, dx, dy)
				checkSpot(t, "ShiftSpot", []any{s, dx, dy}, got, ok, want, wantOk)
			}
		}
	}
}

func TestHalfWay(t *testing.T) {
	cases := []struct{ a, b, want impl.Spot }{
		{impl.Spot{X: 1, D: 1}, impl.Spot{X: 2, Y: 1, D: 1}, impl.Spot{X: 3, Y: 1, D: 2}},
		{impl.Spot{X: 1, D: 1}, impl.Spot{X: 3, Y: 2, D: 1}, impl.Spot{X: 2, Y: 1, D: 1}},
		{impl.Spot{X: 1, Y: -5, D: 3}, impl.Spot{X: 1, Y: -5, D: 3}, impl.Spot{X: 1, Y: -5, D: 3}},
		{impl.Spot{X: 1, Y: 1, D: 2}, impl.Spot{X: 1, Y: 1, D: 3}, impl.Spot{X: 5, Y: 5, D: 12}},
		{impl.Spot{X: -7, Y: 4, D: 5}, impl.Spot{X: 7, Y: -4, D: 5}, impl.Spot{D: 1}},
		{impl.Spot{X: maxPlace, Y: -maxPlace, D: 1}, impl.Spot{X: maxPlace, Y: -maxPlace, D: 1}, impl.Spot{X: maxPlace, Y: -maxPlace, D: 1}},
		{impl.Spot{X: 1, Y: 1, D: maxHalfDen}, impl.Spot{X: 3, Y: 3, D: maxHalfDen}, impl.Spot{X: 1, Y: 1, D: maxHalfDen / 2}},
		{impl.Spot{X: 1, D: maxHalfDen}, impl.Spot{D: 1}, impl.Spot{X: 1, D: 2 * maxHalfDen}},
		{impl.Spot{X: maxPlace * maxHalfDen, Y: 1, D: maxHalfDen}, impl.Spot{X: maxPlace * maxHalfDen, Y: 1, D: maxHalfDen}, impl.Spot{X: maxPlace * maxHalfDen, Y: 1, D: maxHalfDen}},
		{impl.Spot{X: 1, D: 50000}, impl.Spot{Y: 1, D: 49999}, impl.Spot{X: 49999, Y: 50000, D: 4999900000}},
		{impl.Spot{X: 1, D: maxHalfDen}, impl.Spot{Y: 1, D: 2499}, impl.Spot{X: 2499, Y: maxHalfDen, D: 4998000000}},
		{impl.Spot{X: 1, D: maxHalfDen}, impl.Spot{X: 1, D: 2500}, impl.Spot{X: 401, D: 2 * maxHalfDen}},
	}
	for _, c := range cases {
		got, ok := impl.HalfWay(c.a, c.b)
		checkSpot(t, "HalfWay", []impl.Spot{c.a, c.b}, got, ok, c.want, true)
		got, ok = impl.HalfWay(c.b, c.a)
		checkSpot(t, "HalfWay", []impl.Spot{c.b, c.a}, got, ok, c.want, true)
	}
	none := [][2]impl.Spot{
		{{X: 1, Y: 1, D: maxHalfDen + 1}, {X: 1, Y: 1, D: maxHalfDen + 1}},
		{{X: 1, Y: 1, D: maxHalfDen + 1}, {D: 1}},
		{{X: 1, Y: 1, D: maxDen}, {X: 1, Y: 1, D: maxDen}},
		// The middle of these has a denominator of 50000 * 50001 * 2, and of the others of 10^6 * 2501 * 2.
		{{X: 1, D: 50000}, {Y: 1, D: 50001}},
		{{X: 1, D: maxHalfDen}, {Y: 1, D: 2501}},
		{{X: 1, Y: 1, D: maxHalfDen}, {X: 1, Y: 1, D: maxHalfDen - 1}},
	}
	for _, c := range none {
		got, ok := impl.HalfWay(c[0], c[1])
		checkSpot(t, "HalfWay", c, got, ok, impl.Spot{}, false)
		got, ok = impl.HalfWay(c[1], c[0])
		checkSpot(t, "HalfWay", c, got, ok, impl.Spot{}, false)
	}
	for _, bad := range invalidSpots() {
		for _, s := range append(invalidSpots(), impl.Spot{D: 1}, impl.Spot{X: 1, Y: -1, D: 3}) {
			got, ok := impl.HalfWay(bad, s)
			checkSpot(t, "HalfWay", []impl.Spot{bad, s}, got, ok, impl.Spot{}, false)
			got, ok = impl.HalfWay(s, bad)
			checkSpot(t, "HalfWay", []impl.Spot{s, bad}, got, ok, impl.Spot{}, false)
		}
	}
}

func TestHalfWaySweep(t *testing.T) {
	half := big.NewRat(1, 2)
	middle := func(p *big.Rat, q *big.Rat) *big.Rat {
		sum := new(big.Rat).Add(p, q)
		return sum.Mul(sum, half)
	}
	for _, a := range validSpots() {
		for _, b := range validSpots() {
			var want impl.Spot
			wantOk := a.D <= maxHalfDen && b.D <= maxHalfDen
			if wantOk {
				ax, ay := spotRats(a)
				bx, by := spotRats(b)
				want, wantOk = spotOfRats(middle(ax, bx), middle(ay, by))
			}
			got, ok := impl.HalfWay(a, b)
			if got != want || ok != wantOk {
				t.Errorf("HalfWay(%v, %v) = %v, %v, want %v, %v", a, b, got, ok, want, wantOk)
			}
		}
	}
}

func TestFormatSpot(t *testing.T) {
	cases := []struct {
		s    impl.Spot
		want string
	}{
		{impl.Spot{D: 1}, "0,0"},
		{impl.Spot{X: 2, Y: 3, D: 1}, "2,3"},
		{impl.Spot{X: -2, Y: 3, D: 1}, "-2,3"},
		{impl.Spot{X: 3, Y: -1, D: 2}, "3/2,-1/2"},
		{impl.Spot{X: 2, Y: 3, D: 6}, "1/3,1/2"},
		{impl.Spot{X: 6, Y: 1, D: 6}, "1,1/6"},
		{impl.Spot{X: 0, Y: 5, D: 6}, "0,5/6"},
		{impl.Spot{X: -5, Y: 0, D: 6}, "-5/6,0"},
		{impl.Spot{X: maxPlace, Y: -maxPlace, D: 1}, "1000,-1000"},
		{impl.Spot{X: 1, Y: -1, D: maxDen}, "1/5000000000,-1/5000000000"},
		{impl.Spot{X: maxPlace * maxDen, Y: 1, D: maxDen}, "1000,1/5000000000"},
		{impl.Spot{X: maxPlace*maxDen - 1, Y: 0, D: maxDen}, "4999999999999/5000000000,0"},
		{impl.Spot{X: 9765625, Y: 512, D: maxDen}, "1/512,1/9765625"},
	}
	for _, c := range cases {
		if got := impl.FormatSpot(c.s); got != c.want {
			t.Errorf("FormatSpot(%v) = %q, want %q", c.s, got, c.want)
		}
		got, ok := impl.ParseSpot(c.want)
		checkSpot(t, "ParseSpot", c.want, got, ok, c.s, true)
	}
	for _, s := range invalidSpots() {
		if got := impl.FormatSpot(s); got != "" {
			t.Errorf("FormatSpot(%v) = %q", s, got)
		}
	}
}

func TestSpotIsRecoveredFromItsText(t *testing.T) {
	for _, s := range validSpots() {
		text := impl.FormatSpot(s)
		x, y := spotRats(s)
		if want := x.RatString() + "," + y.RatString(); text != want {
			t.Errorf("FormatSpot(%v) = %q, want %q", s, text, want)
		}
		got, ok := impl.ParseSpot(text)
		checkSpot(t, "ParseSpot", text, got, ok, s, true)
	}
}

// The denominators of both coordinates are combined, and the product of two of them need not fit into an int.
func TestParseSpotCombinesCoordinates(t *testing.T) {
	var list []*big.Rat
	for _, d := range []int{1, 2, 3, 6, 32, 65536, 70710, 70711, 99991, 9765625, 156250000, 1 << 32, maxDen / 2, maxDen - 1, maxDen, maxDen + 1, 1 << 33, maxDiv} {
		for _, n := range []int{0, 1, -7, maxPlace * d, -maxPlace * d, maxPlace*d - 1, maxPlace*d + 1, -maxPlace*d - 1, maxNum, -maxNum} {
			list = append(list, big.NewRat(int64(n), int64(d)))
		}
	}
	for _, x := range list {
		for _, y := range list {
			text := x.RatString() + "," + y.RatString()
			want, wantOk := spotOfRats(x, y)
			got, ok := impl.ParseSpot(text)
			checkSpot(t, "ParseSpot", text, got, ok, want, wantOk)
		}
	}
}

func TestParseSpotRejects(t *testing.T) {
	cases := []string{
		"", ",", "1", "3/2", "1,", ",1", "1,2,", ",1,2", "1,,2", "1,2,3", "1/2,1/3,1/4", "1,2,3/4", ",,",
		"1;2", "1 2", "1/2", "1/2/3", "1.2", "1:2", "(1,2)", "1，2",
		" 1,2", "1 ,2", "1, 2", "1,2 ", "\t1,2", "1,\t2", "1,2\n", "\n1,2", "1\n,2", "1,2\x00", "1,2\r",
		"+1,2", "1,+2", "-0,1", "1,-0", "--1,2", "1,--2", "-,1", "1,-", "1-,2",
		"01,2", "1,02", "00,1", "1,00", "-01,2", "1,-02", "01/2,1", "1/02,1", "1,1/02", "1,01/2",
		"2/4,1", "1,2/4", "2/6,4/6", "1/1,2", "1,2/1", "0/1,0", "0,0/2", "4/2,1", "1,-6/3", "3/6,1/6",
		"1/0,1", "1,1/0", "0/0,0/0", "1/-2,1", "1,1/-2", "-1/-2,1", "1/,2", "1,2/", "/2,1", "1,/2",
		"1001,0", "0,1001", "-1001,0", "0,-1001", "2001/2,0", "0,-2001/2", "1000,1001", "1001,1000",
		"1/5000000001,0", "0,1/5000000001", "5000000000001/5000000000,0", "0,-5000000000001/5000000000",
		"1/5000000000,1/3", "1/3,1/5000000000", "1/70711,1/70712", "1/4999999999,1/5000000000",
		// These pairs have least common denominators of about 2 to the 64, which wrap around.
		"1/4294967296,1/4294967297", "1/4294967297,1/4294967296", "1/4294967296,1/4294967295",
		// Brought to the denominator 32, these coordinates of 2 to the 59 wrap around to 0.
		"576460752303423488,1/32", "1/32,576460752303423488", "-576460752303423488,1/32", "1/32,-576460752303423488",
		"1/1000000000000000,0", "0,1/1000000000000000", "1000000000000000000,0", "0,-1000000000000000000",
		"9223372036854775807,0", "0,-9223372036854775808", "-9223372036854775808,-9223372036854775808",
		"18446744073709551617,0", "0,18446744073709551617", "1/18446744073709551618,0",
		"a,b", "a,1", "1,a", "1e2,0", "0x1,0", "\xff,0", "0,\xff", "１,0",
	}
	for _, text := range cases {
		got, ok := impl.ParseSpot(text)
		checkSpot(t, "ParseSpot", text, got, ok, impl.Spot{}, false)
	}
}

// Whatever ParseSpot accepts after a change of one byte must still be written as that very text.
func TestParseSpotAcceptsNothingElse(t *testing.T) {
	for _, text := range []string{"0,0", "12,-7", "3/2,-1/2", "-35/12,8", "1000,-1000", "1/5000000000,999", "1/3,1/1666666666"} {
		for i := 0; i <= len(text); i++ {
			for code := range 256 {
				b := string([]byte{byte(code)})
				changed := []string{text[:i] + b + text[i:]}
				if i < len(text) {
					changed = append(changed, text[:i]+b+text[i+1:])
				}
				for _, c := range changed {
					got, ok := impl.ParseSpot(c)
					if ok && (!validSpotByBig(got) || impl.FormatSpot(got) != c) || !ok && got != (impl.Spot{}) {
						t.Errorf("ParseSpot(%q) = %v, %v", c, got, ok)
					}
				}
			}
		}
	}
}
