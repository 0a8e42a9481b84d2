package tests

import (
	"math"
	"math/big"
	"math/rand/v2"
	"slices"
	"testing"

	"loop.example/g00832/impl"
)

// spanOf returns the span from n/d to m/e, valid or not.
func spanOf(n int, d int, m int, e int) impl.Span {
	return impl.Span{Low: impl.Ratio{N: n, D: d}, High: impl.Ratio{N: m, D: e}}
}

func validSpanByBig(w impl.Span) bool {
	return validByBig(w.Low) && validByBig(w.High) && bigRat(w.Low).Cmp(bigRat(w.High)) <= 0
}

func inSpanByBig(w impl.Span, u impl.Ratio) bool {
	return validSpanByBig(w) && validByBig(u) && endsOf(w).have(bigRat(u))
}

func endsOf(w impl.Span) ends {
	return ends{bigRat(w.Low), bigRat(w.High)}
}

// spanOfEnds returns the zero value and false if the ends are in the wrong order or not valid.
func spanOfEnds(e ends) (impl.Span, bool) {
	low, lowOk := ratioOfRat(e.least)
	high, highOk := ratioOfRat(e.most)
	if !lowOk || !highOk || e.least.Cmp(e.most) > 0 {
		return impl.Span{}, false
	}
	return impl.Span{Low: low, High: high}, true
}

func meetSpansByBig(a impl.Span, b impl.Span) (impl.Span, bool) {
	if !validSpanByBig(a) || !validSpanByBig(b) {
		return impl.Span{}, false
	}
	e, f := endsOf(a), endsOf(b)
	if f.least.Cmp(e.least) > 0 {
		e.least = f.least
	}
	if f.most.Cmp(e.most) < 0 {
		e.most = f.most
	}
	return spanOfEnds(e)
}

// pickByBig follows the words of the chapter, step by step.
func pickByBig(w impl.Span, wish int) impl.Ratio {
	if !validSpanByBig(w) {
		return impl.Ratio{}
	}
	e, wanted := endsOf(w), whole(min(max(wish, -maxInput), maxInput))
	nearest := wanted
	if wanted.Cmp(e.least) < 0 {
		nearest = e.least
	} else if wanted.Cmp(e.most) > 0 {
		nearest = e.most
	}
	// The whole numbers of the span next to its ends; one of them is the nearest to a wish outside.
	up, down := new(big.Rat).SetInt(ceilOf(e.least)), new(big.Rat).SetInt(floorOf(e.most))
	if !nearest.IsInt() && e.have(up) {
		nearest = up
		if wanted.Cmp(e.most) > 0 {
			nearest = down
		}
	}
	u, _ := ratioOfRat(nearest)
	return u
}

func floorOf(n *big.Rat) *big.Int {
	return new(big.Int).Div(n.Num(), n.Denom())
}

func ceilOf(n *big.Rat) *big.Int {
	down := floorOf(new(big.Rat).Neg(n))
	return down.Neg(down)
}

// wholeByTrying counts, so that it depends on no rounding.
func wholeByTrying(w impl.Span) int {
	all := ends{whole(-maxInput), whole(maxInput)}
	if !validSpanByBig(w) || !all.have(bigRat(w.Low)) || !all.have(bigRat(w.High)) {
		return 0
	}
	count, e := 0, endsOf(w)
	for n := -maxInput; n <= maxInput; n++ {
		if e.have(whole(n)) {
			count++
		}
	}
	return count
}

// admitByBig takes any arguments and does what the chapter says, half plane by half plane.
func admitByBig(r impl.Room, p impl.Region, s impl.Spot) (impl.Span, bool) {
	robust, ok := robustByBig(r, p)
	if !ok || len(robust.Halves) == 0 || !validSpotByBig(s) || s.D > maxStateDen {
		return impl.Span{}, false
	}
	all := ends{whole(r.Low), whole(r.High)}
	return spanOfEnds(all.narrowed(r, mapByBig(pointOf(s), r.Map, r.Div), robust.Halves))
}

func slopeByBig(r impl.Room, h impl.Half) (impl.Ratio, int) {
	if !validRoomByBig(r) || !validHalfByBig(h) {
		return impl.Ratio{}, 0
	}
	slope := bigSum(h.A, r.Bx, h.B, r.By)
	return impl.Ratio{N: int(slope.Int64()), D: 1}, slope.Sign()
}

func checkSpan(t *testing.T, call string, args any, got impl.Span, ok bool, want impl.Span, wantOk bool) {
	t.Helper()
	if got != want || ok != wantOk {
		t.Errorf("%s of %v = %v, %v, want %v, %v", call, args, got, ok, want, wantOk)
	}
}

func checkSpanOk(t *testing.T, name string, w impl.Span, want bool) {
	t.Helper()
	if got := impl.SpanOk(w); got != want {
		t.Errorf("%s: SpanOk(%v) = %v", name, w, got)
	}
}

func checkInSpan(t *testing.T, name string, w impl.Span, u impl.Ratio, want bool) {
	t.Helper()
	if got := impl.InSpan(w, u); got != want {
		t.Errorf("%s: InSpan(%v, %v) = %v", name, w, u, got)
	}
}

func checkAdmit(t *testing.T, name string, r impl.Room, p impl.Region, s impl.Spot, want impl.Span, wantOk bool) {
	t.Helper()
	got, ok := impl.AdmitAt(r, p, s)
	checkSpan(t, "AdmitAt: "+name, []any{r, p, s}, got, ok, want, wantOk)
}

func checkPick(t *testing.T, name string, w impl.Span, wish int, want impl.Ratio) {
	t.Helper()
	if got := impl.PickInput(w, wish); got != want {
		t.Errorf("%s: PickInput(%v, %d) = %v, want %v", name, w, wish, got, want)
	}
}

func checkMeetSpans(t *testing.T, name string, a impl.Span, b impl.Span, want impl.Span, wantOk bool) {
	t.Helper()
	got, ok := impl.MeetSpans(a, b)
	checkSpan(t, "MeetSpans: "+name, []any{a, b}, got, ok, want, wantOk)
}

func checkWhole(t *testing.T, name string, w impl.Span, want int) {
	t.Helper()
	if got := impl.WholeInputs(w); got != want {
		t.Errorf("%s: WholeInputs(%v) = %d, want %d", name, w, got, want)
	}
}

func checkSlope(t *testing.T, name string, r impl.Room, h impl.Half, want impl.Ratio, wantSign int) {
	t.Helper()
	got, sign := impl.AdmitHalf(r, h)
	if got != want || sign != wantSign {
		t.Errorf("%s: AdmitHalf(%v, %v) = %v, %d, want %v, %d", name, r, h, got, sign, want, wantSign)
	}
}

// spanEnds are fractions of every size, around whole numbers and around the limits of inputs and of fractions.
func spanEnds() []impl.Ratio {
	list := []impl.Ratio{{D: 1}, {N: maxNum, D: 1}, {N: maxNum - 1, D: 1}, {N: maxNum, D: 3}, {N: 1, D: maxDiv}, {N: maxDiv - 1, D: maxDiv}, {N: maxDiv + 1, D: maxDiv}}
	for _, d := range []int{1, 2, 3, 1000} {
		for _, n := range []int{1, 2, 4, d - 1, d + 1, 3*d + 1, 999*d + 1, 1000*d - 1, 1000 * d, 1000*d + 1, 1001 * d} {
			list = append(list, impl.Ratio{N: n, D: d})
		}
	}
	const far = maxInput * maxDiv
	list = append(list, impl.Ratio{N: far - 1, D: maxDiv}, impl.Ratio{N: far - maxInput + 1, D: maxDiv - 1}, impl.Ratio{N: 5*maxDiv + 1, D: maxDiv})
	for _, u := range slices.Clone(list) {
		list = append(list, impl.Ratio{N: -u.N, D: u.D})
	}
	list = slices.DeleteFunc(list, func(u impl.Ratio) bool { return !validByBig(u) })
	slices.SortFunc(list, func(a impl.Ratio, b impl.Ratio) int { return bigRat(a).Cmp(bigRat(b)) })
	return slices.Compact(list)
}

// goodSpans have every pair of ends.
func goodSpans() []impl.Span {
	var list []impl.Span
	all := spanEnds()
	for i, low := range all {
		for _, high := range all[i:] {
			list = append(list, impl.Span{Low: low, High: high})
		}
	}
	return list
}

// wrongSpans have an end that is not valid, or both, or their ends in the wrong order.
func wrongSpans() []impl.Span {
	list := []impl.Span{{}, spanOf(1, 1, 0, 1), spanOf(1, 3, 1, 4), spanOf(1, 2, -1, 2), spanOf(-1, 1, -2, 1), spanOf(7, 2, 10, 3), spanOf(1000, 1, -1000, 1),
		spanOf(maxNum, 1, maxNum-1, 1), spanOf(1, maxDiv-1, 1, maxDiv), spanOf(1, 1, maxDiv-1, maxDiv), spanOf(-maxDiv+1, maxDiv, -1, 1)}
	for _, bad := range invalidRatios() {
		for _, u := range []impl.Ratio{{D: 1}, {N: -5, D: 2}, {N: 1000, D: 1}, {N: -maxNum, D: 1}, {N: maxNum, D: 1}} {
			list = append(list, impl.Span{Low: bad, High: u}, impl.Span{Low: u, High: bad})
		}
		list = append(list, impl.Span{Low: bad, High: bad})
	}
	return list
}

func TestSpanOk(t *testing.T) {
	cases := []struct {
		name string
		w    impl.Span
		want bool
	}{
		{"fractions", spanOf(1, 3, 7, 2), true},
		{"whole numbers", spanOf(-2, 1, 5, 1), true},
		{"Low equal to High", spanOf(3, 4, 3, 4), true},
		{"both 0", spanOf(0, 1, 0, 1), true},
		{"Low greater than High", spanOf(3, 4, 2, 3), false},
		{"Low greater than High below 0", spanOf(-2, 3, -3, 4), false},
		{"Low greater than High by the least", spanOf(1, maxDiv-1, 1, maxDiv), false},
		{"Low less than High by the least", spanOf(1, maxDiv, 1, maxDiv-1), true},
		{"beyond all inputs", spanOf(-maxNum, 1, maxNum, 1), true},
		{"no Low", impl.Span{High: impl.Ratio{N: 1, D: 1}}, false},
		{"no High", impl.Span{Low: impl.Ratio{N: -1, D: 1}}, false},
		{"no end", impl.Span{}, false},
		{"Low not in lowest terms", spanOf(2, 4, 1, 1), false},
		{"High not in lowest terms", spanOf(0, 1, 2, 4), false},
		{"equal ends that are not in lowest terms", spanOf(2, 4, 2, 4), false},
		{"Low with D below 0", spanOf(1, -1, 1, 1), false},
		{"High with D below 0", spanOf(-1, 1, -1, -1), false},
	}
	for _, c := range cases {
		checkSpanOk(t, c.name, c.w, c.want)
		if validSpanByBig(c.w) != c.want {
			t.Errorf("validSpanByBig: %s is not %v", c.name, c.want)
		}
	}
	for _, w := range goodSpans() {
		checkSpanOk(t, "good", w, true)
		checkSpanOk(t, "ends exchanged", impl.Span{Low: w.High, High: w.Low}, w.Low == w.High)
	}
	for _, w := range wrongSpans() {
		checkSpanOk(t, "wrong", w, false)
	}
	for _, u := range validRatios() {
		checkSpanOk(t, "a single input", impl.Span{Low: u, High: u}, true)
	}
}

func TestInSpan(t *testing.T) {
	w, single := spanOf(-1, 3, 7, 2), spanOf(2, 3, 2, 3)
	cases := []struct {
		name string
		w    impl.Span
		u    impl.Ratio
		want bool
	}{
		{"at Low", w, impl.Ratio{N: -1, D: 3}, true},
		{"at High", w, impl.Ratio{N: 7, D: 2}, true},
		{"between", w, impl.Ratio{N: 22, D: 7}, true},
		{"0 between", w, impl.Ratio{D: 1}, true},
		{"below Low", w, impl.Ratio{N: -1, D: 2}, false},
		{"above High", w, impl.Ratio{N: 4, D: 1}, false},
		{"below Low by the least", w, impl.Ratio{N: -333333333333333, D: 999999999999998}, false},
		{"above Low by the least", w, impl.Ratio{N: -333333333333333, D: maxDiv}, true},
		{"above High by the least", w, impl.Ratio{N: 7*499999999999999 + 1, D: 999999999999999}, true},
		{"just above High", w, impl.Ratio{N: 7*499999999999999 + 4, D: 999999999999999}, false},
		{"the greatest fraction", w, impl.Ratio{N: maxNum, D: 1}, false},
		{"the least fraction", w, impl.Ratio{N: -maxNum, D: 1}, false},
		{"not valid", w, impl.Ratio{}, false},
		{"not in lowest terms", w, impl.Ratio{N: 2, D: 2}, false},
		{"not in lowest terms at Low", w, impl.Ratio{N: -2, D: 6}, false},
		{"a D below 0", w, impl.Ratio{N: -1, D: -1}, false},
		{"the only one", single, impl.Ratio{N: 2, D: 3}, true},
		{"below the only one", single, impl.Ratio{N: 1, D: 2}, false},
		{"above the only one", single, impl.Ratio{N: 3, D: 4}, false},
		{"ends in the wrong order", spanOf(1, 1, 0, 1), impl.Ratio{N: 1, D: 2}, false},
		{"ends in the wrong order, at Low", spanOf(1, 1, 0, 1), impl.Ratio{N: 1, D: 1}, false},
		{"no Low", impl.Span{High: impl.Ratio{N: 1, D: 1}}, impl.Ratio{D: 1}, false},
		{"no High", impl.Span{Low: impl.Ratio{N: -1, D: 1}}, impl.Ratio{D: 1}, false},
		{"no span", impl.Span{}, impl.Ratio{D: 1}, false},
		{"nothing", impl.Span{}, impl.Ratio{}, false},
	}
	for _, c := range cases {
		checkInSpan(t, c.name, c.w, c.u, c.want)
		if inSpanByBig(c.w, c.u) != c.want {
			t.Errorf("inSpanByBig: %s is not %v", c.name, c.want)
		}
	}
}

func TestInSpanSweep(t *testing.T) {
	list := spanEnds()
	for i, low := range list {
		for j, high := range list {
			w := impl.Span{Low: low, High: high}
			// The list is ascending, so the places in it tell.
			for k := (i + j) % 3; k < len(list); k += 3 {
				checkInSpan(t, "sweep", w, list[k], i <= k && k <= j)
			}
			checkInSpan(t, "at Low", w, low, i <= j)
			checkInSpan(t, "at High", w, high, i <= j)
		}
	}
	for _, bad := range invalidRatios() {
		for _, w := range []impl.Span{spanOf(-maxNum, 1, maxNum, 1), spanOf(-1, 2, 1, 2), {Low: bad, High: bad}} {
			checkInSpan(t, "input not valid", w, bad, false)
		}
	}
	for _, w := range wrongSpans() {
		for _, u := range []impl.Ratio{{D: 1}, {N: -5, D: 2}, {N: 1, D: 2}, w.Low, w.High} {
			checkInSpan(t, "wrong", w, u, false)
		}
	}
}

type admitCase struct {
	name string
	r    impl.Room
	p    impl.Region
	s    impl.Spot
	want impl.Span
	ok   bool
}

// boundCases have bounds of every kind. The robust part of their region is the box from -4, -8 to 4, 8.
func boundCases() []admitCase {
	halving := halvingRoom()
	p, none := halving.Limits, impl.Span{}
	ranged := func(low int, high int) impl.Room {
		return changed(halving, func(r *impl.Room) { r.Low, r.High = low, high })
	}
	driven := func(bx int, by int) impl.Room {
		return changed(halving, func(r *impl.Room) { r.Bx, r.By, r.Low, r.High = bx, by, -1000, 1000 })
	}
	back := changed(halving, func(r *impl.Room) { r.Bx = -1 })
	spot := func(x int, y int, d int) impl.Spot { return impl.Spot{X: x, Y: y, D: d} }
	return []admitCase{
		{"bounds beyond both ends", halving, p, spot(0, 0, 1), spanOf(-2, 1, 2, 1), true},
		{"a bound at High", halving, p, spot(2, 0, 1), spanOf(-2, 1, 2, 1), true},
		{"a bound at Low", halving, p, spot(-2, 0, 1), spanOf(-2, 1, 2, 1), true},
		{"bounds at both ends", ranged(-4, 4), p, spot(0, 0, 1), spanOf(-4, 1, 4, 1), true},
		{"bounds just within both ends", ranged(-5, 5), p, spot(0, 0, 1), spanOf(-4, 1, 4, 1), true},
		{"a bound below High", halving, p, spot(3, 0, 1), spanOf(-2, 1, 1, 1), true},
		{"a bound above Low", halving, p, spot(-3, 0, 1), spanOf(-1, 1, 2, 1), true},
		{"the corner", halving, p, spot(5, 9, 1), spanOf(-2, 1, -1, 1), true},
		{"both bounds between the ends", ranged(-1000, 1000), p, spot(1, 0, 1), spanOf(-5, 1, 3, 1), true},
		{"both bounds below 0", ranged(-1000, 1000), p, spot(100, 0, 1), spanOf(-104, 1, -96, 1), true},
		{"both bounds above 0", ranged(-1000, 1000), p, spot(-100, 0, 1), spanOf(96, 1, 104, 1), true},
		{"bounds that are fractions", ranged(-1000, 1000), p, spot(1, 0, 3), spanOf(-13, 3, 11, 3), true},
		{"a state outside p", halving, p, spot(6, 0, 1), spanOf(-2, 1, -2, 1), true},
		{"only Low", halving, p, spot(6, 3, 1), spanOf(-2, 1, -2, 1), true},
		{"only High", halving, p, spot(-6, 3, 1), spanOf(2, 1, 2, 1), true},
		{"next to only Low", halving, p, spot(599999, 0, maxStateDen), spanOf(-2, 1, -199999, maxStateDen), true},
		{"none by the least state", halving, p, spot(600001, 0, maxStateDen), none, false},
		{"none by the least state below", halving, p, spot(-600001, 0, maxStateDen), none, false},
		{"none", halving, p, spot(7, 0, 1), none, false},
		{"none at the end of the frame", halving, p, spot(1000, 0, 1), none, false},
		{"one input from the range", ranged(1, 1), p, spot(0, 0, 1), spanOf(1, 1, 1, 1), true},
		{"not the one input from the range", ranged(1, 1), p, spot(4, 0, 1), none, false},
		{"slope 0 with a top above 0", halving, p, spot(0, 15, 1), spanOf(-2, 1, 2, 1), true},
		{"slope 0 with a top just above 0", halving, p, spot(0, 1599999, maxStateDen), spanOf(-2, 1, 2, 1), true},
		{"slope 0 with a top of 0", halving, p, spot(0, 16, 1), spanOf(-2, 1, 2, 1), true},
		{"slope 0 with a top of 0 below", halving, p, spot(3, -16, 1), spanOf(-2, 1, 1, 1), true},
		{"slope 0 with a top just below 0", halving, p, spot(0, 1600001, maxStateDen), none, false},
		{"slope 0 with a top just below 0 below", halving, p, spot(0, -1600001, maxStateDen), none, false},
		{"slope 0 with a top below 0", halving, p, spot(0, 17, 1), none, false},
		{"slope 0 with a top below 0 below", halving, p, spot(0, -17, 1), none, false},
		{"no drive", driven(0, 0), p, spot(4, 16, 1), spanOf(-1000, 1, 1000, 1), true},
		{"no drive, too far to the right", driven(0, 0), p, spot(5, 0, 1), none, false},
		{"no drive, too far up", driven(0, 0), p, spot(0, 17, 1), none, false},
		{"a drive back", back, p, spot(5, 0, 1), spanOf(1, 1, 2, 1), true},
		{"a drive back from the left", back, p, spot(-5, 0, 1), spanOf(-2, 1, -1, 1), true},
		{"a drive back, only High", back, p, spot(6, 0, 1), spanOf(2, 1, 2, 1), true},
		{"a drive back, none", back, p, spot(-7, 0, 1), none, false},
		{"a large drive", driven(3, 0), p, spot(1, 0, 1), spanOf(-5, 3, 1, 1), true},
		{"a large drive back", driven(-3, 0), p, spot(1, 0, 1), spanOf(-1, 1, 5, 3), true},
		{"the largest drive", driven(100, 0), p, spot(1, 0, 1), spanOf(-1, 20, 3, 100), true},
		{"a drive up", driven(0, 2), p, spot(1, 3, 1), spanOf(-19, 4, 13, 4), true},
		{"a drive down", driven(0, -2), p, spot(1, 3, 1), spanOf(-13, 4, 19, 4), true},
		{"a drive up, too far to the right", driven(0, 2), p, spot(5, 3, 1), none, false},
		{"a drive aslant, held by x", driven(1, 1), p, spot(0, 0, 1), spanOf(-4, 1, 4, 1), true},
		{"a drive aslant, held by y", driven(1, 3), p, spot(0, 0, 1), spanOf(-8, 3, 8, 3), true},
		{"a drive aslant, held by both", driven(1, 1), p, spot(3, -14, 1), spanOf(-1, 1, 1, 1), true},
		{"a drive aslant, one input at a corner", driven(1, 1), p, spot(9, -6, 1), spanOf(-5, 1, -5, 1), true},
		{"a drive aslant, past a corner", driven(1, 1), p, spot(13, 0, 1), none, false},
		{"a drive aslant, through another corner", driven(1, -1), p, spot(13, -2, 1), spanOf(-9, 1, -9, 1), true},
	}
}

// placeCases have maps, regions and disturbances of every kind.
func placeCases() []admitCase {
	along, frame, none, some := plainRoom(1, 0), impl.Region{Halves: frameList()}, impl.Span{}, someRoom()
	double := changed(along, func(r *impl.Room) { r.Map, r.Low, r.High = []int{2, 0, 0, 2}, -1000, 1000 })
	ahead := changed(along, func(r *impl.Room) { r.Noise = boxOf(-12, -1, -10, 1) })
	large := changed(along, func(r *impl.Room) { r.Noise = boxOf(-6, -1, 6, 1) })
	slope := impl.Region{Halves: []impl.Half{{A: 1, B: 1, C: 5}, {A: -1, C: 0}, {B: -1, C: 0}}}
	up := changed(plainRoom(0, 1), func(r *impl.Room) { r.Low, r.High = -1000, 1000 })
	spot := func(x int, y int, d int) impl.Spot { return impl.Spot{X: x, Y: y, D: d} }
	turned := changed(along, func(r *impl.Room) { r.Map, r.Low, r.High = []int{0, 1, -1, 0}, -1000, 1000 })
	half := changed(plainRoom(2, 3), func(r *impl.Room) {
		r.Map, r.Div, r.Low, r.High = []int{1, 2, 3, -1}, 7, -1000, 1000
	})
	return []admitCase{
		{"D of s at its limit", along, boxOf(-9, -9, 9, 9), spot(1, 1, maxStateDen), spanOf(-1, 1, 1, 1), true},
		{"D of s beyond its limit", along, boxOf(-9, -9, 9, 9), spot(1, 1, maxStateDen+1), none, false},
		{"D of s far beyond its limit", along, boxOf(-9, -9, 9, 9), spot(1, 1, maxDen), none, false},
		{"D of s at its limit in a bound", double, boxOf(-9, -9, 9, 9), spot(1, 1, maxStateDen), spanOf(-400001, 50000, 399999, 50000), true},
		{"a region beyond Limits", along, boxOf(90, -9, 99, 9), spot(97, 0, 1), spanOf(-1, 1, 1, 1), true},
		{"a slope of the region", up, slope, spot(1, 1, 1), spanOf(0, 1, 1, 1), true},
		{"a slope of the region, from above", up, slope, spot(1, 100, 1), spanOf(-99, 1, -98, 1), true},
		{"the corner of a slope of the region", up, slope, spot(2, 5, 1), spanOf(-4, 1, -4, 1), true},
		{"past a slope of the region", up, slope, spot(3, 1, 1), none, false},
		{"a larger slope of the region", up, impl.Region{Halves: []impl.Half{{A: 2, B: 3, C: 16}, {A: -1, C: 0}, {B: -1, C: 0}}}, spot(3, 3, 2), spanOf(-1, 2, 7, 6), true},
		{"fractions", some, boxOf(-10, -1, 10, 10), spot(1, 2, 3), spanOf(-11, 9, -1, 18), true},
		{"fractions with a larger region", some, boxOf(-20, -20, 20, 20), spot(1, 2, 3), spanOf(-286, 105, 284, 105), true},
		{"turned", turned, boxOf(-9, -9, 9, 9), spot(3, 5, 1), spanOf(-13, 1, 3, 1), true},
		{"turned, too low", turned, boxOf(-9, -9, 9, 9), spot(9, 5, 1), none, false},
		{"all numbers of the map", half, boxOf(-9, -9, 9, 9), spot(5, 1, 2), spanOf(-3, 1, 7, 3), true},
		{"mapped out of the frame", double, boxOf(-9, -9, 9, 9), spot(501, 0, 1), spanOf(-1000, 1, -994, 1), true},
		{"mapped out of the frame, only Low", double, boxOf(-9, -9, 9, 9), spot(504, 0, 1), spanOf(-1000, 1, -1000, 1), true},
		{"mapped too far out of the frame", double, boxOf(-9, -9, 9, 9), spot(505, 0, 1), none, false},
		{"mapped out of the frame and led back", double, boxOf(0, -9, 900, 9), spot(501, 0, 1), spanOf(-1000, 1, -103, 1), true},
		{"mapped out of the frame and led to its border", double, frame, spot(501, 0, 1), spanOf(-1000, 1, -3, 1), true},
		{"mapped far out of the frame", double, frame, spot(-1000, 0, 1), none, false},
		{"mapped out of the frame and back to one spot of it", changed(double, func(r *impl.Room) { r.Bx = 2; r.High = 501 }), boxOf(-998, -9, 4, 9), spot(-999, 0, 1), spanOf(1001, 2, 501, 1), true},
		{"mapped out of the frame upwards", double, frame, spot(0, 501, 1), none, false},
		{"the frame", along, frame, spot(999, 0, 1), spanOf(-1, 1, 0, 1), true},
		{"the end of the frame", along, frame, spot(1000, 0, 1), spanOf(-1, 1, -1, 1), true},
		{"the upper end of the frame", along, frame, spot(0, 1000, 1), none, false},
		{"disturbances that lead on", ahead, boxOf(0, -9, 40, 9), spot(12, 0, 1), spanOf(0, 1, 1, 1), true},
		// With the input 1 and any of these disturbances, the next state lies in p, but the way to it leads out of the frame.
		{"no way through the outside of the frame", ahead, boxOf(900, -9, 1000, 9), spot(1000, 0, 1), spanOf(-1, 1, 0, 1), true},
		{"a strip left by Noise", large, boxOf(-7, -5, 6, 5), spot(0, 0, 1), spanOf(-1, 1, 0, 1), true},
		{"a line left by Noise", large, boxOf(-6, -5, 6, 5), spot(0, 0, 1), none, false},
		{"nothing left by Noise", large, boxOf(-5, -5, 5, 5), spot(0, 0, 1), none, false},
		{"a point left by Noise", along, boxOf(-1, -1, 1, 1), spot(0, 0, 1), none, false},
		{"a void region", along, impl.Region{}, spot(0, 0, 1), none, false},
		{"an empty region", along, impl.Region{Halves: []impl.Half{}}, spot(0, 0, 1), none, false},
		{"a region without one of its edges", along, impl.Region{Halves: boxAnd(-9, -9, 9, 9)[1:]}, spot(0, 0, 1), none, false},
		{"a region with an edge that is not needed", along, impl.Region{Halves: boxAnd(-9, -9, 9, 9, impl.Half{A: 1, B: -1, C: 20})}, spot(0, 0, 1), none, false},
		{"a region that is a line", along, boxOf(-9, 0, 9, 0), spot(0, 0, 1), none, false},
		{"no state", along, boxOf(-9, -9, 9, 9), impl.Spot{}, none, false},
		{"a state not in lowest terms", along, boxOf(-9, -9, 9, 9), spot(2, 2, 2), none, false},
		{"a state outside the frame", along, boxOf(-9, -9, 9, 9), spot(1001, 0, 1), none, false},
		{"no room", impl.Room{}, boxOf(-9, -9, 9, 9), spot(0, 0, 1), none, false},
		{"no determinant", changed(along, func(r *impl.Room) { r.Map = []int{1, 1, 1, 1} }), boxOf(-9, -9, 9, 9), spot(0, 0, 1), none, false},
		{"Low greater than High", changed(along, func(r *impl.Room) { r.Low = 2 }), boxOf(-9, -9, 9, 9), spot(0, 0, 1), none, false},
	}
}

func TestAdmitAt(t *testing.T) {
	for _, c := range append(boundCases(), placeCases()...) {
		checkAdmit(t, c.name, c.r, c.p, c.s, c.want, c.ok)
		if c.ok {
			checkSpanOk(t, c.name, c.want, true)
			// Limits do not count.
			r := changed(c.r, func(r *impl.Room) { r.Limits = boxOf(700, 700, 701, 701) })
			checkAdmit(t, c.name, r, c.p, c.s, c.want, true)
		}
		// The cases also show that the calculation used for the sweeps is right.
		got, ok := admitByBig(c.r, c.p, c.s)
		checkSpan(t, "admitByBig: "+c.name, c, got, ok, c.want, c.ok)
	}
}

// Only the first of the three steps back counts, so that inputs may be admitted where PreRegion fails.
func TestAdmitAtWhereStepsFail(t *testing.T) {
	admitted := [4]int{}
	for _, c := range append(halfCases(), countCases()...) {
		corners := orderedCorners(c.p)
		first, last := corners[0], corners[len(corners)/2]
		middle := impl.Spot{X: (first.X/first.D + last.X/last.D) / 2, Y: (first.Y/first.D + last.Y/last.D) / 2, D: 1}
		for _, s := range []impl.Spot{first, last, middle, {D: 1}} {
			want, wantOk := admitByBig(c.r, c.p, s)
			checkAdmit(t, c.name, c.r, c.p, s, want, wantOk)
			if wantOk {
				admitted[c.step]++
			}
		}
	}
	if admitted[0] > 0 || admitted[1] < 10 || admitted[2] < 2 || admitted[3] < 20 {
		t.Errorf("%v inputs are admitted", admitted)
	}
}

// checkAdmitsNone is for rooms and regions one of which is not valid.
func checkAdmitsNone(t *testing.T, name string, r impl.Room, p impl.Region) {
	t.Helper()
	for _, s := range []impl.Spot{{D: 1}, {X: 1, Y: 2, D: 3}, {X: -4, Y: 5, D: 1}} {
		checkAdmit(t, name, r, p, s, impl.Span{}, false)
	}
}

func TestAdmitAtWrongRooms(t *testing.T) {
	list := append(voidRegions(), boxOf(-20, -20, 20, 20), impl.Region{Halves: frameList()}, wrongRegions()[0])
	for _, r := range wrongRooms() {
		for _, p := range list {
			checkAdmitsNone(t, "room not valid", r, p)
		}
		checkAdmitsNone(t, "room not valid", r, r.Limits)
	}
}

func TestAdmitAtWrongRegions(t *testing.T) {
	list := slices.Concat(wrongRegions(), voidRegions(), []impl.Region{boxOf(0, 0, 0, 0), boxOf(1, 0, 0, 1), boxOf(-1, -1, 1001, 1), {Halves: make([]impl.Half, 100000)}})
	for _, p := range list {
		for _, r := range []impl.Room{someRoom(), plainRoom(0, 0), plainRoom(1, 0), halvingRoom()} {
			checkAdmitsNone(t, "region not valid", r, p)
		}
	}
	for _, n := range []int{math.MinInt, math.MinInt + 1, math.MaxInt - 1, math.MaxInt} {
		for i, h := range boxAnd(-9, -9, 9, 9) {
			for _, bad := range []impl.Half{{A: n, B: h.B, C: h.C}, {A: h.A, B: n, C: h.C}, {A: h.A, B: h.B, C: n}, {A: n, B: n, C: n}} {
				halves := boxAnd(-9, -9, 9, 9)
				halves[i] = bad
				checkAdmitsNone(t, "an int at an end of the range", plainRoom(1, 0), impl.Region{Halves: halves})
			}
		}
	}
}

func TestAdmitAtWrongSpots(t *testing.T) {
	frame := impl.Region{Halves: frameList()}
	for _, r := range []impl.Room{someRoom(), plainRoom(0, 0), plainRoom(1, 0)} {
		for _, bad := range invalidSpots() {
			checkAdmit(t, "state not valid", r, frame, bad, impl.Span{}, false)
		}
		for _, n := range spotInts() {
			for _, m := range []int{-1, 0, 1, 2} {
				for _, s := range []impl.Spot{{X: n, Y: m, D: 1}, {X: m, Y: n, D: 1}, {X: 1, Y: m, D: n}} {
					want, wantOk := admitByBig(r, frame, s)
					checkAdmit(t, "state", r, frame, s, want, wantOk)
				}
			}
		}
		for _, s := range validSpots() {
			if s.D > maxStateDen {
				checkAdmit(t, "D of the state", r, frame, s, impl.Span{}, false)
			}
		}
	}
}

func TestAdmitAtOfRoomsAtTheirLimits(t *testing.T) {
	regions := []impl.Region{boxOf(-30, -40, 50, 60), {Halves: frameList()}, {Halves: triangleAnd()}, fractions()}
	spots := []impl.Spot{{D: 1}, {X: 1, Y: 2, D: 3}, {X: -7, Y: 30, D: 2}, {X: 900, Y: -1000, D: 1}, {X: -999, Y: 31, D: 1000}}
	found, none := 0, 0
	for i, r := range goodRooms() {
		for _, p := range append(regions, r.Limits) {
			for _, s := range spots[i%2:] {
				want, wantOk := admitByBig(r, p, s)
				checkAdmit(t, "room at its limits", r, p, s, want, wantOk)
				if wantOk {
					found++
				} else {
					none++
				}
			}
		}
	}
	if found < 300 || none < 300 {
		t.Errorf("%d found, %d none", found, none)
	}
}

// All numbers are at their limits or near them, so that every product is as great as it can get.
func TestAdmitAtGreatNumbers(t *testing.T) {
	source := rand.New(rand.NewPCG(11, 1))
	regions := []impl.Region{regionOf(impl.Half{A: maxCoef, B: maxCoef - 1, C: 99000000}, impl.Half{A: 1 - maxCoef, B: maxCoef, C: 98000003}),
		regionOf(impl.Half{A: -maxCoef, B: -49999, C: 99990000}, impl.Half{A: maxCoef, B: -49997, C: 3}), {Halves: frameList()},
		regionOf(impl.Half{A: 49999, B: 1, C: -45000000})}
	dens := []int{1, maxStateDen, maxStateDen - 1, maxStateDen - 9, 65536}
	found, fractions := 0, 0
	for range 3000 {
		r := changed(someRoom(), func(r *impl.Room) {
			r.Map = [][]int{{20, 20, -20, 20}, {-20, 20, 20, 20}, {20, 19, 20, 20}, {1, 0, 0, 1}, {20, 0, 1, -20}, {0, 1, 1, 0}, {1, -2, 2, 1}}[source.IntN(7)]
			r.Div = []int{20, 19, 17, 1}[source.IntN(4)]
			r.Bx, r.By = []int{100, 99, -100, 0, 1}[source.IntN(5)], []int{100, 97, -100, 0, -1}[source.IntN(5)]
			r.Low, r.High = -1000, 1000-source.IntN(2)
		})
		d := dens[source.IntN(len(dens))]
		ends := []int{maxPlace * d, maxPlace*d - 1, -maxPlace * d, 1 - maxPlace*d, source.IntN(d), -source.IntN(maxPlace * d)}
		s := impl.Spot{X: ends[source.IntN(len(ends))], Y: ends[source.IntN(len(ends))], D: d}
		if !validSpotByBig(s) {
			continue
		}
		p := regions[source.IntN(len(regions))]
		want, wantOk := admitByBig(r, p, s)
		checkAdmit(t, "great numbers", r, p, s, want, wantOk)
		if wantOk {
			found++
		}
		if max(want.Low.D, want.High.D) > 1000000000 {
			fractions++
		}
	}
	if found < 500 || fractions < 100 {
		t.Errorf("%d found, %d with great denominators", found, fractions)
	}
}

// The greatest denominators of a bound: those of the state and of the map times the slope.
func TestAdmitAtGreatestDenominator(t *testing.T) {
	r := changed(plainRoom(100, 100), func(r *impl.Room) { r.Map, r.Div, r.Low, r.High = []int{1, 0, 0, 1}, 20, -1000, 1000 })
	p := regionOf(impl.Half{A: 49999, B: 49990, C: 1})
	// The robust part has C decreased by 99989.
	s := impl.Spot{X: 1, Y: 1, D: 99999}
	high := big.NewRat(-99988*20*99999-49999-49990, 20*99999*(49999+49990)*100)
	want, ok := ratioOfRat(high)
	got, gotOk := impl.AdmitAt(r, p, s)
	if !ok || !gotOk || got.High != want || want.D < 10000000000000 {
		t.Errorf("AdmitAt(%v, %v, %v) = %v, %v, want %v", r, p, s, got, gotOk, want)
	}
	checkSpan(t, "AdmitAt", []any{r, p, s}, got, gotOk, impl.Span{Low: impl.Ratio{N: -1997980021, D: 199998000}, High: want}, true)
}

// stateNear returns a state anywhere, or often one from which some input leads into p.
func stateNear(source *rand.Rand, r impl.Room, p impl.Region) impl.Spot {
	if pre, _ := impl.PreRegion(r, p); len(pre.Halves) > 0 && source.IntN(4) > 0 {
		corners := orderedCorners(pre)
		if s := corners[source.IntN(len(corners))]; s.D <= 1000 {
			return s
		}
	}
	return someSpot(source, []int{3, 30, maxStateDen}[source.IntN(3)])
}

func TestAdmitAtSweep(t *testing.T) {
	source := rand.New(rand.NewPCG(11, 2))
	found, none, single := 0, 0, 0
	for _, p := range movable(41, 12) {
		for range 12 {
			r := sweepRoom(source)
			s := stateNear(source, r, p)
			want, wantOk := admitByBig(r, p, s)
			checkAdmit(t, "sweep", r, p, s, want, wantOk)
			switch {
			case !wantOk:
				none++
			case want.Low == want.High:
				single++
			default:
				found++
			}
		}
	}
	if found < 100 || none < 100 || single < 50 {
		t.Errorf("%d found, %d none, %d single", found, none, single)
	}
}

// An input is admitted exactly if it is from Low to High, leads from the mapped state to a point of the frame, and from there
// no disturbance leads out of p. This does not use the robust part, of which only its being void counts.
func TestAdmitAtIsWhatHolds(t *testing.T) {
	source := rand.New(rand.NewPCG(11, 3))
	frame := frameList()
	admitted, refused, atEnd, beyond := 0, 0, 0, 0
	for _, p := range movable(42, 12) {
		for range 8 {
			r := sweepRoom(source)
			s := stateNear(source, r, p)
			if robust, ok := robustByBig(r, p); !ok || len(robust.Halves) == 0 || s.D > 1000 {
				continue
			}
			image := mapByBig(pointOf(s), r.Map, r.Div)
			e := admittedByBig(r, p, pointOf(s)).narrowed(r, image, frame)
			want, wantOk := spanOfEnds(e)
			checkAdmit(t, "held", r, p, s, want, wantOk)
			got, _ := impl.AdmitAt(r, p, s)
			for _, u := range inputsNear(r, e) {
				if !validByBig(u) || !image.driven(r, bigRat(u)).liesIn(frame) {
					continue
				}
				is := impl.InSpan(got, u)
				checkHeld(t, "admitted", r, s, u, p, is)
				switch {
				case u == got.Low || u == got.High:
					atEnd++
				case is:
					admitted++
				case got.Low.D > 0:
					beyond++
				default:
					refused++
				}
			}
		}
	}
	if admitted < 300 || refused < 300 || atEnd < 100 || beyond < 300 {
		t.Errorf("%d admitted, %d refused, %d at an end, %d beyond one", admitted, refused, atEnd, beyond)
	}
}

// driven returns the point moved by an input.
func (p point) driven(r impl.Room, u *big.Rat) point {
	x, y := new(big.Rat).Mul(whole(r.Bx), u), new(big.Rat).Mul(whole(r.By), u)
	return point{x.Add(x, p.x), y.Add(y, p.y)}
}

// A state within Limits lies in the kept region exactly if some input is admitted there that leads into it again.
func TestAdmitAtKeptStates(t *testing.T) {
	source := rand.New(rand.NewPCG(11, 4))
	rooms, inside, outside := 0, 0, 0
	for range 400 {
		r := roundRoom(source)
		x, y, w, h := source.IntN(7)-3, source.IntN(7)-3, 3+source.IntN(9), 3+source.IntN(9)
		r.Limits = boxOf(x-w, y-h, x+w, y+h)
		kept, ok := impl.KeptRegion(r)
		if robust, _ := robustByBig(r, kept); !ok || len(robust.Halves) == 0 {
			continue
		}
		rooms++
		for _, s := range append(wholeSpotsOf(r.Limits), orderedCorners(kept)...) {
			if s.D > 1000 {
				continue
			}
			w, ok := impl.AdmitAt(r, kept, s)
			if ok != liesInAll(kept.Halves, s) {
				t.Errorf("AdmitAt(%v, %v, %v) = %v, %v", r, kept, s, w, ok)
			}
			if !ok {
				outside++
				continue
			}
			inside++
			for _, u := range []impl.Ratio{w.Low, w.High} {
				if u.D <= maxInputDen {
					checkHeld(t, "kept", r, s, u, kept, true)
				}
			}
		}
	}
	if rooms < 25 || inside < 3000 || outside < 1000 {
		t.Errorf("%d rooms, %d states inside, %d outside", rooms, inside, outside)
	}
}

// In these rooms, the whole inputs that win the game on whole states are the whole ones of the span.
func TestAdmitAtWinsByPlaying(t *testing.T) {
	var list []impl.Room
	for v := 1; v <= 4; v++ {
		list = append(list, changed(brakingRoom(v), func(r *impl.Room) { r.Limits = boxOf(-12, -2, 12, v) }))
		list = append(list, swingingRoom(v+3))
	}
	counts := map[int]int{}
	for _, r := range list {
		kept, _ := impl.KeptRegion(r)
		states := gameStates(r, 0)
		for _, s := range wholeSpotsOf(r.Limits) {
			w, _ := impl.AdmitAt(r, kept, s)
			wins := 0
			for u := -5; u <= 5; u++ {
				is := within(u, r.Low, r.High) && winsAt(r, states, s, u)
				checkInSpan(t, "game", w, impl.Ratio{N: u, D: 1}, is)
				if is {
					wins++
				}
			}
			checkWhole(t, "game", w, wins)
			counts[wins]++
		}
	}
	if counts[0] < 20 || counts[1] < 100 || counts[2] < 100 || counts[3] < 100 {
		t.Errorf("numbers of inputs: %v", counts)
	}
}

// winsAt is for rooms with a Div of 1.
func winsAt(r impl.Room, states map[[2]int]bool, s impl.Spot, u int) bool {
	for _, d := range orderedCorners(r.Noise) {
		next := [2]int{r.Map[0]*s.X + r.Map[1]*s.Y + r.Bx*u + d.X, r.Map[2]*s.X + r.Map[3]*s.Y + r.By*u + d.Y}
		if !states[next] {
			return false
		}
	}
	return true
}

type pickCase struct {
	name string
	w    impl.Span
	wish int
	want impl.Ratio
}

func pickCases() []pickCase {
	w, whole, narrow, single := spanOf(1, 3, 7, 2), spanOf(-2, 1, 5, 1), spanOf(1, 3, 2, 3), spanOf(5, 2, 5, 2)
	below, wide := spanOf(-7, 2, -1, 3), spanOf(-maxNum, 1, maxNum, 1)
	n := func(n int) impl.Ratio { return impl.Ratio{N: n, D: 1} }
	return []pickCase{
		{"in the span", w, 2, n(2)},
		{"the least whole number", w, 1, n(1)},
		{"the greatest whole number", w, 3, n(3)},
		{"above, and High is no whole number", w, 4, n(3)},
		{"far above, and High is no whole number", w, 9, n(3)},
		{"below, and Low is no whole number", w, 0, n(1)},
		{"far below, and Low is no whole number", w, -9, n(1)},
		{"in the span below 0", below, -2, n(-2)},
		{"above, and High is no whole number below 0", below, 0, n(-1)},
		{"below, and Low is no whole number below 0", below, -4, n(-3)},
		{"at Low", whole, -2, n(-2)},
		{"at High", whole, 5, n(5)},
		{"next to Low", whole, -1, n(-1)},
		{"next to High", whole, 4, n(4)},
		{"below Low", whole, -3, n(-2)},
		{"above High", whole, 6, n(5)},
		{"0", whole, 0, n(0)},
		{"no whole number, wish below", narrow, 0, impl.Ratio{N: 1, D: 3}},
		{"no whole number, wish above", narrow, 1, impl.Ratio{N: 2, D: 3}},
		{"no whole number, wish far above", narrow, 5, impl.Ratio{N: 2, D: 3}},
		{"no whole number, wish far below", narrow, -5, impl.Ratio{N: 1, D: 3}},
		{"no whole number below 0, wish above", spanOf(-2, 3, -1, 3), 0, impl.Ratio{N: -1, D: 3}},
		{"no whole number below 0, wish below", spanOf(-2, 3, -1, 3), -1, impl.Ratio{N: -2, D: 3}},
		{"a single fraction, wish below", single, 2, impl.Ratio{N: 5, D: 2}},
		{"a single fraction, wish above", single, 3, impl.Ratio{N: 5, D: 2}},
		{"a single whole number, wish below", spanOf(4, 1, 4, 1), -7, n(4)},
		{"a single whole number, wish above", spanOf(4, 1, 4, 1), 7, n(4)},
		{"a single whole number, wish at it", spanOf(4, 1, 4, 1), 4, n(4)},
		{"one whole number in the span, wish below", spanOf(1, 2, 3, 2), -1, n(1)},
		{"one whole number in the span, wish above", spanOf(1, 2, 3, 2), 2, n(1)},
		{"one whole number at High, wish below", spanOf(1, 2, 1, 1), 0, n(1)},
		{"one whole number at High, wish above", spanOf(1, 2, 1, 1), 2, n(1)},
		{"one whole number at Low, wish below", spanOf(1, 1, 3, 2), 0, n(1)},
		{"one whole number at Low, wish above", spanOf(1, 1, 3, 2), 2, n(1)},
		{"Low whole and High not, wish above", spanOf(-2, 1, 5, 2), 9, n(2)},
		{"High whole and Low not, wish below", spanOf(-5, 2, 2, 1), -9, n(-2)},
		{"a wish of 1000", wide, 1000, n(1000)},
		{"a wish of -1000", wide, -1000, n(-1000)},
		{"a wish above 1000", wide, 1001, n(1000)},
		{"a wish below -1000", wide, -1001, n(-1000)},
		{"the greatest wish", wide, math.MaxInt, n(1000)},
		{"the least wish", wide, math.MinInt, n(-1000)},
		{"the greatest wish in a span", w, math.MaxInt, n(3)},
		{"the least wish in a span", w, math.MinInt, n(1)},
		// The wish is clamped first, and so is nearest to Low.
		{"a wish in a span above 1000", spanOf(2000, 1, 3000, 1), 2500, n(2000)},
		{"a wish above a span above 1000", spanOf(2000, 1, 3000, 1), 5000, n(2000)},
		{"a wish in a span below -1000", spanOf(-3000, 1, -2000, 1), -2500, n(-2000)},
		{"a wish below a span below -1000", spanOf(-3000, 1, -2000, 1), -5000, n(-2000)},
		{"a span of fractions above 1000", spanOf(4001, 2, 5001, 2), 2500, n(2001)},
		{"a span without a whole number above 1000", spanOf(4001, 2, 8003, 4), 2500, impl.Ratio{N: 4001, D: 2}},
		{"a span without a whole number around the greatest wish", spanOf(2001, 2, 3002, 3), math.MaxInt, impl.Ratio{N: 2001, D: 2}},
		{"the least steps around a whole number", spanOf(maxDiv-1, maxDiv, maxDiv+1, maxDiv), 9, n(1)},
		{"the least steps below a whole number", spanOf(maxDiv-2, maxDiv-1, maxDiv-1, maxDiv), 9, impl.Ratio{N: maxDiv - 1, D: maxDiv}},
		{"the greatest span from its end", spanOf(maxNum, 1, maxNum, 1), 3, n(maxNum)},
		{"no span", impl.Span{}, 1, impl.Ratio{}},
		{"ends in the wrong order", spanOf(2, 1, 1, 1), 1, impl.Ratio{}},
		{"ends in the wrong order around a whole number", spanOf(3, 2, 1, 2), 1, impl.Ratio{}},
		{"Low not valid", spanOf(2, 2, 3, 1), 2, impl.Ratio{}},
		{"High not valid", spanOf(1, 1, 6, 2), 2, impl.Ratio{}},
	}
}

func TestPickInput(t *testing.T) {
	for _, c := range pickCases() {
		checkPick(t, c.name, c.w, c.wish, c.want)
		// The cases also show that the calculation used for the sweeps is right.
		if got := pickByBig(c.w, c.wish); got != c.want {
			t.Errorf("pickByBig: %s: %v, want %v", c.name, got, c.want)
		}
	}
}

// wishes are around the ends of inputs and of ints, and in between.
func wishes() []int {
	list := []int{math.MinInt, math.MinInt + 1, math.MaxInt - 1, math.MaxInt, -5000, 5000, -maxNum, maxNum}
	for _, n := range []int{-1001, -1000, -999, 998, 999, 1000, 1001} {
		list = append(list, n)
	}
	for n := -5; n <= 5; n++ {
		list = append(list, n)
	}
	return list
}

func TestPickInputSweep(t *testing.T) {
	for i, w := range goodSpans() {
		for k, wish := range wishes() {
			if (i+k)%3 != 0 {
				continue
			}
			got := impl.PickInput(w, wish)
			checkPick(t, "sweep", w, wish, pickByBig(w, wish))
			checkInSpan(t, "picked", w, got, true)
			if limited := min(max(wish, -maxInput), maxInput); endsOf(w).have(whole(limited)) && got != (impl.Ratio{N: limited, D: 1}) {
				t.Errorf("PickInput(%v, %d) = %v", w, wish, got)
			}
		}
	}
	for _, w := range wrongSpans() {
		for _, wish := range wishes() {
			checkPick(t, "span not valid", w, wish, impl.Ratio{})
		}
	}
}

func TestMeetSpans(t *testing.T) {
	w := spanOf(1, 3, 7, 2)
	cases := []struct {
		name string
		a    impl.Span
		b    impl.Span
		want impl.Span
		ok   bool
	}{
		{"overlapping", w, spanOf(2, 1, 9, 2), spanOf(2, 1, 7, 2), true},
		{"overlapping below 0", spanOf(-7, 2, -1, 3), spanOf(-2, 1, 5, 1), spanOf(-2, 1, -1, 3), true},
		{"one input in common", w, spanOf(7, 2, 4, 1), spanOf(7, 2, 7, 2), true},
		{"one whole input in common", spanOf(-2, 1, 3, 1), spanOf(3, 1, 4, 1), spanOf(3, 1, 3, 1), true},
		{"none in common", w, spanOf(4, 1, 5, 1), impl.Span{}, false},
		{"none in common by the least", spanOf(0, 1, 1, maxDiv), spanOf(1, maxDiv-1, 1, 1), impl.Span{}, false},
		{"equal", w, w, w, true},
		{"one within the other", w, spanOf(1, 1, 2, 1), spanOf(1, 1, 2, 1), true},
		{"one within the other with the same Low", w, spanOf(1, 3, 2, 3), spanOf(1, 3, 2, 3), true},
		{"one within the other with the same High", w, spanOf(2, 1, 7, 2), spanOf(2, 1, 7, 2), true},
		{"a single input in a span", w, spanOf(1, 1, 1, 1), spanOf(1, 1, 1, 1), true},
		{"a single input at an end of a span", w, spanOf(1, 3, 1, 3), spanOf(1, 3, 1, 3), true},
		{"a single input outside a span", w, spanOf(1, 4, 1, 4), impl.Span{}, false},
		{"the same single input", spanOf(5, 2, 5, 2), spanOf(5, 2, 5, 2), spanOf(5, 2, 5, 2), true},
		{"different single inputs", spanOf(5, 2, 5, 2), spanOf(7, 2, 7, 2), impl.Span{}, false},
		{"the widest span", spanOf(-maxNum, 1, maxNum, 1), spanOf(-1, maxDiv, 1, maxDiv), spanOf(-1, maxDiv, 1, maxDiv), true},
		{"no span", w, impl.Span{}, impl.Span{}, false},
		{"Low not valid", w, spanOf(2, 2, 2, 1), impl.Span{}, false},
		{"High not valid", w, spanOf(1, 1, 4, 2), impl.Span{}, false},
		{"ends in the wrong order within a span", w, spanOf(2, 1, 1, 1), impl.Span{}, false},
		{"ends in the wrong order around a span", w, spanOf(4, 1, 0, 1), impl.Span{}, false},
		{"both in the wrong order", spanOf(4, 1, 0, 1), spanOf(4, 1, 0, 1), impl.Span{}, false},
		{"neither valid", impl.Span{}, impl.Span{}, impl.Span{}, false},
	}
	for _, c := range cases {
		checkMeetSpans(t, c.name, c.a, c.b, c.want, c.ok)
		checkMeetSpans(t, c.name+", exchanged", c.b, c.a, c.want, c.ok)
		got, ok := meetSpansByBig(c.a, c.b)
		checkSpan(t, "meetSpansByBig: "+c.name, c, got, ok, c.want, c.ok)
	}
}

func TestMeetSpansSweep(t *testing.T) {
	list := goodSpans()
	met, none := 0, 0
	for i, a := range list {
		checkMeetSpans(t, "itself", a, a, a, true)
		for k := i % 41; k < len(list); k += 41 {
			want, wantOk := meetSpansByBig(a, list[k])
			checkMeetSpans(t, "sweep", a, list[k], want, wantOk)
			if wantOk {
				met++
			} else {
				none++
			}
		}
	}
	if met < 10000 || none < 10000 {
		t.Errorf("%d met, %d none", met, none)
	}
	for _, bad := range wrongSpans() {
		for _, w := range append(wrongSpans(), list[:50]...) {
			checkMeetSpans(t, "wrong", bad, w, impl.Span{}, false)
			checkMeetSpans(t, "wrong", w, bad, impl.Span{}, false)
		}
		checkMeetSpans(t, "wrong with all", spanOf(-maxNum, 1, maxNum, 1), bad, impl.Span{}, false)
	}
}

func TestWholeInputs(t *testing.T) {
	const far = maxInput * maxDiv
	cases := []struct {
		name string
		w    impl.Span
		want int
	}{
		{"many", spanOf(1, 3, 7, 2), 3},
		{"none", spanOf(1, 3, 2, 3), 0},
		{"none below 0", spanOf(-2, 3, -1, 3), 0},
		{"one", spanOf(1, 2, 3, 2), 1},
		{"0", spanOf(-1, 2, 1, 2), 1},
		{"whole ends", spanOf(-2, 1, 5, 1), 8},
		{"a whole Low", spanOf(1, 1, 3, 2), 1},
		{"a whole High", spanOf(1, 2, 1, 1), 1},
		{"a single whole number", spanOf(4, 1, 4, 1), 1},
		{"a single negative whole number", spanOf(-4, 1, -4, 1), 1},
		{"a single fraction", spanOf(5, 2, 5, 2), 0},
		{"negative ends", spanOf(-7, 2, -4, 3), 2},
		{"negative whole ends", spanOf(-7, 1, -4, 1), 4},
		{"the least steps around a whole number", spanOf(maxDiv-1, maxDiv, maxDiv+1, maxDiv), 1},
		{"the least step below a whole number", spanOf(1, maxDiv, maxDiv-1, maxDiv), 0},
		{"all", spanOf(-1000, 1, 1000, 1), 2001},
		{"all but the ends", spanOf(-999, 1, 999, 1), 1999},
		{"only 1000", spanOf(1000, 1, 1000, 1), 1},
		{"only -1000", spanOf(-1000, 1, -1000, 1), 1},
		{"just within both ends", spanOf(1-far, maxDiv, far-1, maxDiv), 1999},
		{"beyond 1000", spanOf(-1000, 1, 1001, 1), 0},
		{"beyond -1000", spanOf(-1001, 1, 1000, 1), 0},
		{"beyond 1000 by the least", spanOf(0, 1, maxNum, 999999999999999), 0},
		{"beyond -1000 by the least", spanOf(-maxNum, 999999999999999, 0, 1), 0},
		{"beyond 1000 by a half", spanOf(999, 1, 2001, 2), 0},
		{"beyond -1000 by a half", spanOf(-2001, 2, -999, 1), 0},
		{"above 1000", spanOf(1001, 1, 1002, 1), 0},
		{"below -1000", spanOf(-1002, 1, -1001, 1), 0},
		{"far beyond both", spanOf(-maxNum, 1, maxNum, 1), 0},
		{"no span", impl.Span{}, 0},
		{"ends in the wrong order", spanOf(2, 1, 1, 1), 0},
		{"ends in the wrong order, far apart", spanOf(1000, 1, -1000, 1), 0},
		{"Low not valid", spanOf(2, 2, 3, 1), 0},
		{"High not valid", spanOf(1, 1, 6, 2), 0},
		{"no Low", spanOf(0, 0, 5, 1), 0},
		{"no High", spanOf(-5, 1, 0, 0), 0},
	}
	for _, c := range cases {
		checkWhole(t, c.name, c.w, c.want)
		if got := wholeByTrying(c.w); got != c.want {
			t.Errorf("wholeByTrying: %s: %d, want %d", c.name, got, c.want)
		}
	}
}

func TestWholeInputsSweep(t *testing.T) {
	counts := map[int]bool{}
	for i, w := range goodSpans() {
		if i%7 != 0 {
			continue
		}
		want := wholeByTrying(w)
		checkWhole(t, "sweep", w, want)
		counts[want] = true
	}
	if len(counts) < 20 {
		t.Errorf("only the numbers %v", counts)
	}
	for _, w := range wrongSpans() {
		checkWhole(t, "wrong", w, 0)
	}
	for low := -9; low <= 9; low++ {
		for high := low; high <= 9; high++ {
			// By thirds, so that each end is whole or next to a whole number on either side.
			w, _ := spanOfEnds(ends{big.NewRat(int64(low), 3), big.NewRat(int64(high), 3)})
			checkWhole(t, "thirds", w, wholeByTrying(w))
		}
	}
}

func TestAdmitHalf(t *testing.T) {
	some, still := someRoom(), plainRoom(0, 0)
	n := func(n int) impl.Ratio { return impl.Ratio{N: n, D: 1} }
	steep := changed(some, func(r *impl.Room) { r.Bx, r.By = 100, 100 })
	cases := []struct {
		name string
		r    impl.Room
		h    impl.Half
		want impl.Ratio
		sign int
	}{
		{"positive", some, impl.Half{A: 3, B: 2, C: 1}, n(9), 1},
		{"negative", some, impl.Half{A: -3, B: 2, C: 1}, n(-33), -1},
		{"0", some, impl.Half{A: 6, B: 7, C: 1}, n(0), 0},
		{"0 the other way", some, impl.Half{A: -6, B: -7, C: 1}, n(0), 0},
		{"only A", some, impl.Half{A: 5, C: 1}, n(35), 1},
		{"only B", some, impl.Half{B: 5, C: 1}, n(-30), -1},
		{"just positive", some, impl.Half{A: 1, B: 1}, n(1), 1},
		{"just negative", some, impl.Half{A: -1, B: -1}, n(-1), -1},
		{"no drive", still, impl.Half{A: 3, B: 2, C: 1}, n(0), 0},
		{"a drive along the border", plainRoom(1, 0), impl.Half{B: 1, C: 4}, n(0), 0},
		{"a drive across the border", plainRoom(1, 0), impl.Half{A: 1, C: 4}, n(1), 1},
		{"a drive away from the border", plainRoom(-1, 0), impl.Half{A: 1, C: 4}, n(-1), -1},
		{"the greatest", steep, impl.Half{A: maxCoef, B: maxCoef, C: 1}, n(10000000), 1},
		{"the least", steep, impl.Half{A: -maxCoef, B: -maxCoef, C: 1}, n(-10000000), -1},
		{"the greatest C", some, impl.Half{A: 1, C: maxTop}, n(7), 1},
		{"the least C", some, impl.Half{A: 1, C: -maxTop}, n(7), 1},
		{"a half plane without points of Limits", some, impl.Half{A: 1, C: -999}, n(7), 1},
		{"no half plane", some, impl.Half{}, impl.Ratio{}, 0},
		{"a half plane not in lowest terms", some, impl.Half{A: 2, B: 2, C: 2}, impl.Ratio{}, 0},
		{"a half plane beyond the limits", some, impl.Half{A: maxCoef + 1, B: 1}, impl.Ratio{}, 0},
		{"no room", impl.Room{}, impl.Half{A: 1, C: 4}, impl.Ratio{}, 0},
	}
	for _, c := range cases {
		checkSlope(t, c.name, c.r, c.h, c.want, c.sign)
		got, sign := slopeByBig(c.r, c.h)
		if got != c.want || sign != c.sign {
			t.Errorf("slopeByBig: %s: %v, %d, want %v, %d", c.name, got, sign, c.want, c.sign)
		}
	}
}

func TestAdmitHalfSweep(t *testing.T) {
	halves := validHalves()
	signs := map[int]int{}
	for i, r := range goodRooms() {
		for k := i % 23; k < len(halves); k += 23 {
			want, sign := slopeByBig(r, halves[k])
			checkSlope(t, "sweep", r, halves[k], want, sign)
			signs[sign]++
		}
	}
	if signs[-1] < 200 || signs[0] < 50 || signs[1] < 200 {
		t.Errorf("signs: %v", signs)
	}
}

func TestAdmitHalfInvalid(t *testing.T) {
	for _, r := range wrongRooms() {
		for _, h := range []impl.Half{{A: 1, C: 4}, {A: -3, B: 2, C: 1}, {B: 1}, {}} {
			checkSlope(t, "room not valid", r, h, impl.Ratio{}, 0)
		}
	}
	for _, r := range []impl.Room{someRoom(), plainRoom(0, 0), plainRoom(1, -1)} {
		for _, bad := range invalidHalves() {
			checkSlope(t, "half plane not valid", r, bad, impl.Ratio{}, 0)
		}
		for _, n := range halfInts() {
			for _, m := range []int{-1, 0, 1, 2} {
				for _, h := range []impl.Half{{A: n, B: m, C: 1}, {A: m, B: n, C: 1}, {A: 1, B: m, C: n}} {
					want, sign := slopeByBig(r, h)
					checkSlope(t, "half plane", r, h, want, sign)
				}
			}
		}
	}
}

// The sign says at which end of the inputs a half plane can leave some out.
func TestAdmitHalfTellsTheEnd(t *testing.T) {
	source := rand.New(rand.NewPCG(11, 5))
	lows, highs, both, none := 0, 0, 0, 0
	for range 4000 {
		r, s := sweepRoom(source), someSpot(source, 30)
		h, _ := impl.HalfOf(source.IntN(9)-4, source.IntN(9)-4, source.IntN(41)-10)
		all, _ := impl.AdmitAt(r, impl.Region{Halves: frameList()}, s)
		// Where the frame leaves all inputs, only h counts.
		if !validHalfByBig(h) || all != spanOf(r.Low, 1, r.High, 1) {
			continue
		}
		w, ok := impl.AdmitAt(r, regionOf(h), s)
		_, sign := impl.AdmitHalf(r, h)
		switch {
		case !ok:
			none++
		case w == all:
			both++
		case w.Low == all.Low:
			highs++
			if sign != 1 {
				t.Errorf("%v and %v at %v: the sign is %d, and the span %v", r, h, s, sign, w)
			}
		case w.High == all.High:
			lows++
			if sign != -1 {
				t.Errorf("%v and %v at %v: the sign is %d, and the span %v", r, h, s, sign, w)
			}
		default:
			t.Errorf("%v and %v at %v: one half plane gives both ends of %v", r, h, s, w)
		}
	}
	if lows < 30 || highs < 30 || both < 30 || none < 30 {
		t.Errorf("%d with another Low, %d with another High, %d with none, %d without inputs", lows, highs, both, none)
	}
}

// Only the arguments count: neither earlier calls, nor nil or empty lists.
func TestAdmitKeepsNoState(t *testing.T) {
	for range 2 {
		for _, c := range append(boundCases(), placeCases()...) {
			checkAdmit(t, "again: "+c.name, c.r, c.p, c.s, c.want, c.ok)
		}
		for _, c := range pickCases() {
			checkPick(t, "again: "+c.name, c.w, c.wish, c.want)
		}
	}
	for _, empty := range [][]impl.Half{nil, {}} {
		noise := changed(halvingRoom(), func(r *impl.Room) { r.Noise.Halves = empty })
		limits := changed(halvingRoom(), func(r *impl.Room) { r.Limits.Halves = empty })
		for _, r := range []impl.Room{noise, limits} {
			checkAdmitsNone(t, "no half planes", r, boxOf(-9, -9, 9, 9))
			checkSlope(t, "no half planes", r, impl.Half{A: 1, C: 4}, impl.Ratio{}, 0)
		}
		checkAdmitsNone(t, "no half planes", halvingRoom(), impl.Region{Halves: empty})
	}
	for _, empty := range [][]int{nil, {}} {
		r := changed(halvingRoom(), func(r *impl.Room) { r.Map = empty })
		checkAdmitsNone(t, "no map", r, boxOf(-9, -9, 9, 9))
		checkSlope(t, "no map", r, impl.Half{A: 1, C: 4}, impl.Ratio{}, 0)
	}
}

func TestAdmitLeavesItsArguments(t *testing.T) {
	spots := []impl.Spot{{D: 1}, {X: 1, Y: 2, D: 3}, {X: 4, Y: -3, D: 1}, {X: 2, Y: 2, D: 2}}
	found := 0
	for _, r := range argRooms() {
		for _, p := range append(argRegions(), r.Limits, boxOf(-30, -30, 30, 30)) {
			room, region := roomWithSpare(r), impl.Region{Halves: withSpare(p.Halves)}
			clipped, tight := roomClipped(r), impl.Region{Halves: slices.Clip(slices.Clone(p.Halves))}
			for _, s := range spots {
				// The spare capacity behind an argument does not count, whatever it holds.
				want, wantOk := impl.AdmitAt(clipped, tight, s)
				checkAdmit(t, "spare", room, region, s, want, wantOk)
				if wantOk {
					found++
				}
			}
			for _, h := range []impl.Half{{A: 1, C: 4}, {A: -3, B: 2, C: 1}, {}} {
				want, sign := impl.AdmitHalf(clipped, h)
				checkSlope(t, "spare", room, h, want, sign)
			}
			if !isRoomUntouched(room, r) || !isUntouched(region.Halves, p.Halves) {
				t.Errorf("%v or %v is changed to %v or %v", r, p, room, region)
			}
		}
	}
	if found < 300 {
		t.Errorf("only %d spans", found)
	}
}

// The same list as Noise, as Limits and as p.
func TestAdmitOfSharedLists(t *testing.T) {
	for _, halves := range [][]impl.Half{boxAnd(-5, -5, 5, 5), diamond(7), frameList(), lattice(38, 300, 5).Halves} {
		shared := withSpare(halves)
		r := changed(halvingRoom(), func(r *impl.Room) { r.Div = 3 })
		r.Limits.Halves = shared
		p := impl.Region{Halves: shared}
		for _, noise := range []impl.Region{boxOf(-1, -1, 1, 1), p} {
			r.Noise = noise
			for _, s := range []impl.Spot{{D: 1}, {X: 9, Y: -5, D: 2}, {X: 905, Y: 15, D: 2}} {
				want, wantOk := admitByBig(roomClipped(r), impl.Region{Halves: slices.Clone(halves)}, s)
				checkAdmit(t, "shared", r, p, s, want, wantOk)
			}
			if !isUntouched(shared, halves) {
				t.Fatalf("%v is changed to %v", halves, shared)
			}
		}
	}
}
