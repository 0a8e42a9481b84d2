package tests

import (
	"math"
	"math/big"
	"math/rand/v2"
	"slices"
	"testing"

	"loop.example/g00832/impl"
)

const maxSumPart = 9000000000000000000

// meetByBig is for valid regions alone.
func meetByBig(p impl.Region, q impl.Region) (impl.Region, bool) {
	if len(p.Halves)+len(q.Halves) > maxHalves {
		return impl.Region{}, false
	}
	if len(p.Halves) == 0 || len(q.Halves) == 0 {
		return impl.Region{}, true
	}
	return regionByBig(slices.Concat(p.Halves, q.Halves))
}

// withinByBig is for valid regions alone.
func withinByBig(p impl.Region, q impl.Region) bool {
	if len(p.Halves) == 0 || len(q.Halves) == 0 {
		return len(p.Halves) == 0
	}
	for _, s := range cornersByBig(p.Halves) {
		if !liesInAll(q.Halves, s) {
			return false
		}
	}
	return true
}

// orderedCorners is for valid regions alone.
func orderedCorners(p impl.Region) []impl.Spot {
	var corners []impl.Spot
	for i, h := range p.Halves {
		s, _ := crossingByBig(h, p.Halves[(i+1)%len(p.Halves)])
		corners = append(corners, s)
	}
	return corners
}

// farthestByBig returns the greatest value of a*x + b*y at a corner and the index of the first corner that has it;
// it is for valid regions that are not void alone.
func farthestByBig(p impl.Region, a int, b int) (*big.Rat, int) {
	var most *big.Rat
	at := -1
	for i, s := range orderedCorners(p) {
		value := new(big.Rat).SetFrac(bigSum(a, s.X, b, s.Y), big.NewInt(int64(s.D)))
		if most == nil || value.Cmp(most) > 0 {
			most, at = value, i
		}
	}
	return most, at
}

// ratioOfRat returns the zero value and false if there is no valid fraction with this value.
func ratioOfRat(value *big.Rat) (impl.Ratio, bool) {
	if value.Denom().CmpAbs(big.NewInt(maxDiv)) > 0 || value.Num().CmpAbs(big.NewInt(maxNum)) > 0 {
		return impl.Ratio{}, false
	}
	return impl.Ratio{N: int(value.Num().Int64()), D: int(value.Denom().Int64())}, true
}

// widthParts returns the four numbers that the limit of WidthOf applies to.
func widthParts(p impl.Region, a int, b int) [4]*big.Int {
	r, _ := farthestByBig(p, a, b)
	s, _ := farthestByBig(p, -a, -b)
	left := new(big.Int).Mul(r.Num(), s.Denom())
	right := new(big.Int).Mul(s.Num(), r.Denom())
	return [4]*big.Int{left, right, new(big.Int).Add(left, right), new(big.Int).Mul(r.Denom(), s.Denom())}
}

// widthByBig is for valid regions that are not void and numbers within MaxCoef alone.
func widthByBig(p impl.Region, a int, b int) (impl.Ratio, bool) {
	parts := widthParts(p, a, b)
	for _, n := range parts {
		if n.CmpAbs(big.NewInt(maxSumPart)) > 0 {
			return impl.Ratio{}, false
		}
	}
	return ratioOfRat(new(big.Rat).SetFrac(parts[2], parts[3]))
}

// innerByTrying tries every whole spot of the frame in order.
func innerByTrying(halves []impl.Half) (impl.Spot, bool) {
	for x := -maxPlace; x <= maxPlace; x++ {
		for y := -maxPlace; y <= maxPlace; y++ {
			if !slices.ContainsFunc(halves, func(h impl.Half) bool { return h.A*x+h.B*y > h.C }) {
				return impl.Spot{X: x, Y: y, D: 1}, true
			}
		}
	}
	return impl.Spot{}, false
}

func checkRatio(t *testing.T, call string, args any, got impl.Ratio, ok bool, want impl.Ratio, wantOk bool) {
	t.Helper()
	if got != want || ok != wantOk {
		t.Errorf("%s of %v = %v, %v, want %v, %v", call, args, got, ok, want, wantOk)
	}
}

// checkMeet checks both orders.
func checkMeet(t *testing.T, name string, p impl.Region, q impl.Region, want impl.Region, wantOk bool) {
	t.Helper()
	got, ok := impl.MeetRegions(p, q)
	checkRegion(t, "MeetRegions: "+name, []impl.Region{p, q}, got, ok, want, wantOk)
	got, ok = impl.MeetRegions(q, p)
	checkRegion(t, "MeetRegions: "+name, []impl.Region{q, p}, got, ok, want, wantOk)
}

func checkWithin(t *testing.T, name string, p impl.Region, q impl.Region, want bool) {
	t.Helper()
	if got := impl.IsWithin(p, q); got != want {
		t.Errorf("IsWithin: %s: of %v and %v = %v", name, p, q, got)
	}
}

func voidRegions() []impl.Region {
	return []impl.Region{{}, {Halves: []impl.Half{}}, {Halves: triangleAnd()[:0]}}
}

// diamond returns the edges of the region with |x| + |y| <= c.
func diamond(c int) []impl.Half {
	return []impl.Half{{A: 1, B: 1, C: c}, {A: -1, B: 1, C: c}, {A: -1, B: -1, C: c}, {A: 1, B: -1, C: c}}
}

type meetCase struct {
	name string
	p    []impl.Half
	q    []impl.Half
	want []impl.Half
	// pIn and qIn say whether p lies within q and q within p.
	pIn bool
	qIn bool
}

func overlapCases() []meetCase {
	triangle, unit := triangleAnd(), boxAnd(0, 0, 1, 1)
	eight := []impl.Half{{A: 1, C: 2}, {A: 1, B: 1, C: 3}, {B: 1, C: 2}, {A: -1, B: 1, C: 3}, {A: -1, C: 2}, {A: -1, B: -1, C: 3}, {B: -1, C: 2}, {A: 1, B: -1, C: 3}}
	low := []impl.Half{{A: 1, B: 2, C: 4}, {A: -1}, {B: -1}}
	return []meetCase{
		{"equal triangles", triangle, triangle, triangle, true, true},
		{"equal boxes", unit, unit, unit, true, true},
		{"the frame twice", frameList(), frameList(), frameList(), true, true},
		{"one far within the other", triangle, boxAnd(-1, -1, 5, 5), triangle, true, false},
		{"one within the other along two edges", triangle, boxAnd(0, 0, 4, 4), triangle, true, false},
		{"one within the other up to a corner on an edge", boxAnd(1, 1, 2, 2), triangle, boxAnd(1, 1, 2, 2), true, false},
		{"one within the other with all corners on edges", diamond(2), boxAnd(-2, -2, 2, 2), diamond(2), true, false},
		{"one within the other with common corners", low, triangle, low, true, false},
		{"one in the frame", triangle, frameList(), triangle, true, false},
		{"one in a corner of the frame", boxAnd(maxPlace-1, -maxPlace, maxPlace, 0), frameList(), boxAnd(maxPlace-1, -maxPlace, maxPlace, 0), true, false},
		{"one within the other by the least step", []impl.Half{{A: maxCoef, C: 1}, {B: 1, C: 1}, {A: -1}, {B: -1}}, []impl.Half{{A: maxCoef - 1, C: 1}, {B: 1, C: 1}, {A: -1}, {B: -1}},
			[]impl.Half{{A: maxCoef, C: 1}, {B: 1, C: 1}, {A: -1}, {B: -1}}, true, false},
		{"overlap at a corner", triangle, boxAnd(1, 1, 10, 10), []impl.Half{{A: 1, B: 1, C: 4}, {A: -1, C: -1}, {B: -1, C: -1}}, false, false},
		{"overlap like a cross", boxAnd(-5, -1, 5, 1), boxAnd(-1, -5, 1, 5), boxAnd(-1, -1, 1, 1), false, false},
		{"overlap with the edges of both", boxAnd(-2, -2, 2, 2), diamond(3), eight, false, false},
		{"overlap along a common edge", boxAnd(0, 0, 3, 2), boxAnd(1, 0, 5, 1), boxAnd(1, 0, 3, 1), false, false},
		{"overlap in a thin strip", []impl.Half{{A: maxCoef, C: 1}, {B: 1, C: 1}, {A: -1, C: 3}, {B: -1}}, boxAnd(0, 0, 4, 1), []impl.Half{{A: maxCoef, C: 1}, {B: 1, C: 1}, {A: -1}, {B: -1}}, false, false},
		{"one corner outside", triangle, boxAnd(-1, -1, 3, 5), []impl.Half{{A: 1, C: 3}, {A: 1, B: 1, C: 4}, {A: -1}, {B: -1}}, false, false},
		{"one corner outside by the least step", boxAnd(0, 0, 1, 1), []impl.Half{{A: maxCoef, B: maxCoef, C: 2*maxCoef - 1}, {A: -1}, {B: -1}},
			[]impl.Half{{A: 1, C: 1}, {A: maxCoef, B: maxCoef, C: 2*maxCoef - 1}, {B: 1, C: 1}, {A: -1}, {B: -1}}, false, false},
	}
}

func apartCases() []meetCase {
	triangle, unit := triangleAnd(), boxAnd(0, 0, 1, 1)
	return []meetCase{
		{"touch along an edge", unit, boxAnd(1, 0, 2, 1), nil, false, false},
		{"touch along a part of an edge", unit, boxAnd(-4, 1, 1, 9), nil, false, false},
		{"touch along a longer edge", unit, boxAnd(1, -3, 5, 9), nil, false, false},
		{"touch along a sloping edge", triangle, []impl.Half{{A: 1, C: 4}, {B: 1, C: 4}, {A: -1, B: -1, C: -4}}, nil, false, false},
		{"touch at a corner of both", unit, boxAnd(1, 1, 2, 2), nil, false, false},
		{"touch at another corner of both", unit, boxAnd(-1, 1, 0, 2), nil, false, false},
		{"touch at a corner on an edge", triangle, boxAnd(2, 2, 3, 3), nil, false, false},
		{"apart on a slope", triangle, boxAnd(3, 3, 5, 5), nil, false, false},
		{"apart to the right", unit, boxAnd(2, 0, 3, 1), nil, false, false},
		{"apart above", unit, boxAnd(0, 2, 1, 3), nil, false, false},
		{"apart at a corner", unit, boxAnd(2, 2, 3, 3), nil, false, false},
		{"apart at opposite corners of the frame", boxAnd(-maxPlace, -maxPlace, 1-maxPlace, 1-maxPlace), boxAnd(maxPlace-1, maxPlace-1, maxPlace, maxPlace), nil, false, false},
		{"apart by the least step", boxAnd(-1, 0, 0, 1), []impl.Half{{A: 1, C: 1}, {B: 1, C: 1}, {A: -maxCoef, C: -1}, {B: -1}}, nil, false, false},
	}
}

func TestMeetAndWithin(t *testing.T) {
	for _, c := range append(overlapCases(), apartCases()...) {
		p, q := impl.Region{Halves: c.p}, impl.Region{Halves: c.q}
		want := impl.Region{Halves: c.want}
		if !validRegionByBig(p) || !validRegionByBig(q) || !validRegionByBig(want) {
			t.Errorf("%s: not valid", c.name)
		}
		checkMeet(t, c.name, p, q, want, true)
		checkWithin(t, c.name, p, q, c.pIn)
		checkWithin(t, c.name, q, p, c.qIn)
		checkWithin(t, c.name, want, p, true)
		checkWithin(t, c.name, want, q, true)
		// The cases also show that the calculations used for the sweeps are right.
		got, ok := meetByBig(p, q)
		checkRegion(t, "meetByBig: "+c.name, c, got, ok, want, true)
		if withinByBig(p, q) != c.pIn || withinByBig(q, p) != c.qIn {
			t.Errorf("withinByBig: %s", c.name)
		}
	}
}

func TestMeetAndWithinVoid(t *testing.T) {
	for _, void := range voidRegions() {
		for _, other := range voidRegions() {
			checkMeet(t, "both void", void, other, impl.Region{}, true)
			checkWithin(t, "both void", void, other, true)
		}
		for _, p := range goodRegions() {
			checkMeet(t, "one void", void, p, impl.Region{}, true)
			checkWithin(t, "first void", void, p, true)
			checkWithin(t, "second void", p, void, false)
		}
	}
}

func TestMeetAndWithinInvalid(t *testing.T) {
	others := append(voidRegions(), wrongRegions()...)
	others = append(others, impl.Region{Halves: frameList()}, impl.Region{Halves: triangleAnd()}, impl.Region{Halves: boxAnd(-1, 0, 2, 1)}, impl.Region{Halves: roundHalves(maxHalves, 500, 0)})
	for _, wrong := range wrongRegions() {
		for _, p := range others {
			checkMeet(t, "not valid", wrong, p, impl.Region{}, false)
			checkWithin(t, "first not valid", wrong, p, false)
			checkWithin(t, "second not valid", p, wrong, false)
		}
	}
	huge := impl.Region{Halves: make([]impl.Half, 100000)}
	checkMeet(t, "far too many", huge, impl.Region{Halves: triangleAnd()}, impl.Region{}, false)
	checkMeet(t, "far too many", huge, huge, impl.Region{}, false)
	checkWithin(t, "far too many", huge, huge, false)
}

func TestMeetRegionsNumberOfHalves(t *testing.T) {
	around := func(n int, radius float64, start float64) impl.Region {
		p := impl.Region{Halves: roundHalves(n, radius, start)}
		if !validRegionByBig(p) {
			t.Errorf("%d half planes are not valid", n)
		}
		return p
	}
	// Turned by half a step, both together have an edge at every angle.
	p, q := around(20, 500, 0), around(20, 500, 0.5)
	want, _ := meetByBig(p, q)
	checkMeet(t, "20 and 20", p, q, want, true)
	if len(want.Halves) != maxHalves {
		t.Errorf("20 and 20 have %d edges", len(want.Halves))
	}
	checkMeet(t, "20 twice", p, p, p, true)
	checkMeet(t, "21 twice", around(21, 500, 0), around(21, 500, 0), impl.Region{}, false)
	checkMeet(t, "20 and 21", p, around(21, 500, 0), impl.Region{}, false)
	frame, triangle := impl.Region{Halves: frameList()}, impl.Region{Halves: triangleAnd()}
	checkMeet(t, "36 and the frame", around(36, 500, 0), frame, around(36, 500, 0), true)
	checkMeet(t, "37 and the frame", around(37, 500, 0), frame, impl.Region{}, false)
	checkMeet(t, "37 and a triangle", around(37, 500, 0), triangle, triangle, true)
	checkMeet(t, "38 and a triangle", around(38, 500, 0), triangle, impl.Region{}, false)
	checkMeet(t, "37 and a box apart", around(37, 500, 0), impl.Region{Halves: boxAnd(800, 800, 900, 900)}, impl.Region{}, false)
	checkMeet(t, "36 and a box apart", around(36, 500, 0), impl.Region{Halves: boxAnd(800, 800, 900, 900)}, impl.Region{}, true)
	most := around(maxHalves, 500, 0)
	checkMeet(t, "40 and a triangle", most, triangle, impl.Region{}, false)
	checkMeet(t, "40 twice", most, most, impl.Region{}, false)
	checkMeet(t, "40 and none", most, impl.Region{}, impl.Region{}, true)
}

func TestIsWithinManyHalves(t *testing.T) {
	most := impl.Region{Halves: roundHalves(maxHalves, 500, 0)}
	less := impl.Region{Halves: roundHalves(maxHalves, 499, 0)}
	turned := impl.Region{Halves: roundHalves(maxHalves, 500, 0.5)}
	frame := impl.Region{Halves: frameList()}
	checkWithin(t, "40 twice", most, most, true)
	checkWithin(t, "less", less, most, true)
	checkWithin(t, "more", most, less, false)
	checkWithin(t, "turned", most, turned, false)
	checkWithin(t, "turned back", turned, most, false)
	checkWithin(t, "40 in the frame", most, frame, true)
	checkWithin(t, "the frame in 40", frame, most, false)
	checkWithin(t, "none in 40", impl.Region{}, most, true)
	checkWithin(t, "40 in none", most, impl.Region{}, false)
}

func TestEveryRegionIsWithinItself(t *testing.T) {
	for _, p := range goodRegions() {
		checkWithin(t, "itself", p, p, true)
		checkWithin(t, "the frame", p, impl.Region{Halves: frameList()}, true)
		same := impl.Region{Halves: slices.Clone(p.Halves)}
		checkWithin(t, "a copy", p, same, true)
		want, wantOk := meetByBig(p, same)
		checkMeet(t, "a copy", p, same, want, wantOk)
		if wantOk && !slices.Equal(want.Halves, p.Halves) {
			t.Errorf("meetByBig of %v and itself = %v", p, want)
		}
	}
}

func TestMeetAndWithinPairs(t *testing.T) {
	list := append(goodRegions(), impl.Region{})
	inside := 0
	for i, p := range list {
		for _, q := range list[i:] {
			want, wantOk := meetByBig(p, q)
			checkMeet(t, "pair", p, q, want, wantOk)
			pIn, qIn := withinByBig(p, q), withinByBig(q, p)
			checkWithin(t, "pair", p, q, pIn)
			checkWithin(t, "pair", q, p, qIn)
			if pIn != qIn {
				inside++
			}
			// Where both apply, the one result follows from the other.
			if wantOk && pIn != slices.Equal(want.Halves, p.Halves) {
				t.Errorf("%v and %v meet in %v", p, q, want)
			}
		}
	}
	if inside < 100 {
		t.Errorf("only %d regions lie in another one", inside)
	}
}

// sweepRegions returns regions of half planes of each pool, with small numbers, near the frame and with great numbers.
func sweepRegions(seed uint64, number int) []impl.Region {
	source := rand.New(rand.NewPCG(6, seed))
	var list []impl.Region
	for _, pool := range regionPools() {
		for found := 0; found < number; {
			var halves []impl.Half
			for range 2 + source.IntN(6) {
				halves = append(halves, pool[source.IntN(len(pool))])
			}
			if p, ok := regionByBig(halves); ok && len(p.Halves) > 0 {
				list = append(list, p)
				found++
			}
		}
	}
	return list
}

func TestMeetAndWithinSweep(t *testing.T) {
	list := sweepRegions(1, 60)
	source := rand.New(rand.NewPCG(6, 2))
	void, inside := 0, 0
	for i, p := range list {
		for range 12 {
			// Mostly a region of the same pool, which meets p in more ways.
			k := i/60*60 + source.IntN(60)
			if source.IntN(4) == 0 {
				k = source.IntN(len(list))
			}
			q := list[k]
			want, wantOk := meetByBig(p, q)
			checkMeet(t, "sweep", p, q, want, wantOk)
			pIn := withinByBig(p, q)
			checkWithin(t, "sweep", p, q, pIn)
			if len(want.Halves) == 0 {
				void++
			}
			if pIn {
				inside++
			}
			checkWithin(t, "the meet", want, p, true)
			checkWithin(t, "the meet", want, q, true)
		}
	}
	if void < 100 || inside < 100 {
		t.Errorf("%d pairs have nothing in common, %d lie one in the other", void, inside)
	}
}

// The promise about regions: the meet contains exactly the spots of both.
func TestMeetRegionsContainsItsSpots(t *testing.T) {
	list := sweepRegions(3, 12)
	for i, p := range list {
		q := list[(i+1)%len(list)]
		meet, ok := impl.MeetRegions(p, q)
		if !ok || impl.IsVoid(meet) {
			continue
		}
		spots := slices.Concat(validSpots(), impl.CornersOf(meet), impl.CornersOf(p), impl.CornersOf(q))
		for _, s := range spots {
			want := liesInAll(p.Halves, s) && liesInAll(q.Halves, s)
			if got := impl.HasSpot(meet, s); got != want {
				t.Errorf("HasSpot(%v, %v) = %v, but it is the meet of %v and %v", meet, s, got, p, q)
			}
		}
	}
}

func TestCutRegion(t *testing.T) {
	triangle := triangleAnd()
	cases := []struct {
		name string
		p    []impl.Half
		h    impl.Half
		want []impl.Half
	}{
		{"cuts off the first corner", triangle, impl.Half{B: 1, C: 1}, []impl.Half{{A: 1, B: 1, C: 4}, {B: 1, C: 1}, {A: -1}, {B: -1}}},
		{"cuts off the second corner", triangle, impl.Half{A: -1, B: -1, C: -1}, []impl.Half{{A: 1, B: 1, C: 4}, {A: -1}, {A: -1, B: -1, C: -1}, {B: -1}}},
		{"cuts off the last corner", triangle, impl.Half{A: 1, C: 3}, []impl.Half{{A: 1, C: 3}, {A: 1, B: 1, C: 4}, {A: -1}, {B: -1}}},
		{"cuts off a corner after all angles", triangle, impl.Half{A: 3, B: -1, C: 9}, []impl.Half{{A: 1, B: 1, C: 4}, {A: -1}, {B: -1}, {A: 3, B: -1, C: 9}}},
		{"cuts off a corner by the least step", triangle, impl.Half{A: maxCoef, B: 1, C: 4*maxCoef - 1}, []impl.Half{{A: maxCoef, B: 1, C: 4*maxCoef - 1}, {A: 1, B: 1, C: 4}, {A: -1}, {B: -1}}},
		{"leaves a corner", triangle, impl.Half{A: -1, C: -3}, []impl.Half{{A: 1, B: 1, C: 4}, {A: -1, C: -3}, {B: -1}}},
		{"cuts off an edge", triangle, impl.Half{A: 1, B: 1, C: 3}, []impl.Half{{A: 1, B: 1, C: 3}, {A: -1}, {B: -1}}},
		{"cuts off an edge with another length", triangle, impl.Half{A: 2, B: 2, C: 7}, []impl.Half{{A: 2, B: 2, C: 7}, {A: -1}, {B: -1}}},
		{"passes through the first corner outside", triangle, impl.Half{A: 1, B: 2, C: 8}, triangle},
		{"passes through the second corner outside", triangle, impl.Half{A: -1, B: -1}, triangle},
		{"passes through the last corner outside", triangle, impl.Half{A: 1, C: 4}, triangle},
		{"passes through a corner inside", triangle, impl.Half{A: 1, B: -1}, []impl.Half{{A: 1, B: 1, C: 4}, {A: -1}, {A: 1, B: -1}}},
		{"passes through a corner inside the other way", triangle, impl.Half{A: -1, B: 1}, []impl.Half{{A: 1, B: 1, C: 4}, {A: -1, B: 1}, {B: -1}}},
		{"passes through two corners inside", boxAnd(0, 0, 1, 1), impl.Half{A: 1, B: 1, C: 1}, []impl.Half{{A: 1, B: 1, C: 1}, {A: -1}, {B: -1}}},
		{"leaves a corner alone", triangle, impl.Half{A: -1, C: -4}, nil},
		{"leaves another corner alone", triangle, impl.Half{A: 1, B: 1}, nil},
		{"lies along the first edge", triangle, impl.Half{A: 1, B: 1, C: 4}, triangle},
		{"lies along the second edge", triangle, impl.Half{A: -1}, triangle},
		{"lies along the last edge", triangle, impl.Half{B: -1}, triangle},
		{"leaves the first edge alone", triangle, impl.Half{A: -1, B: -1, C: -4}, nil},
		{"leaves the second edge alone", triangle, impl.Half{A: 1}, nil},
		{"leaves the last edge alone", triangle, impl.Half{B: 1}, nil},
		{"misses it", triangle, impl.Half{A: 1, C: 9}, triangle},
		{"misses it by the least step", triangle, impl.Half{A: maxCoef, B: 1, C: 4*maxCoef + 1}, triangle},
		{"misses it along an edge", triangle, impl.Half{A: 1, B: 1, C: 5}, triangle},
		{"misses it far outside", triangle, impl.Half{A: 1, B: 1, C: maxTop}, triangle},
		{"leaves nothing", triangle, impl.Half{A: -1, C: -9}, nil},
		{"leaves nothing by the least step", triangle, impl.Half{A: -maxCoef, C: -4*maxCoef - 1}, nil},
		{"leaves nothing far outside", triangle, impl.Half{A: 1, B: 1, C: -maxTop}, nil},
		{"cuts the frame", frameList(), impl.Half{A: 1, B: 1, C: 4}, []impl.Half{{A: 1, C: maxPlace}, {A: 1, B: 1, C: 4}, {B: 1, C: maxPlace}, {A: -1, C: maxPlace}, {B: -1, C: maxPlace}}},
		{"cuts a box across", boxAnd(-1, 0, 2, 1), impl.Half{A: 2, C: 1}, []impl.Half{{A: 2, C: 1}, {B: 1, C: 1}, {A: -1, C: 1}, {B: -1}}},
	}
	for _, c := range cases {
		got, ok := impl.CutRegion(impl.Region{Halves: c.p}, c.h)
		checkRegion(t, "CutRegion: it "+c.name, c.h, got, ok, impl.Region{Halves: c.want}, true)
		got, ok = regionByBig(append(slices.Clone(c.p), c.h))
		checkRegion(t, "regionByBig: it "+c.name, c.h, got, ok, impl.Region{Halves: c.want}, true)
	}
}

func TestCutRegionVoid(t *testing.T) {
	for _, void := range voidRegions() {
		for _, h := range validHalves() {
			got, ok := impl.CutRegion(void, h)
			checkRegion(t, "CutRegion", h, got, ok, impl.Region{}, true)
		}
	}
}

func TestCutRegionInvalid(t *testing.T) {
	for _, h := range invalidHalves() {
		for _, p := range slices.Concat(voidRegions(), goodRegions(), wrongRegions()) {
			got, ok := impl.CutRegion(p, h)
			checkRegion(t, "CutRegion", h, got, ok, impl.Region{}, false)
		}
	}
	halves := []impl.Half{{A: 1, C: 2}, {A: 1, C: 9}, {B: -1, C: -5}, {A: 1, B: 1, C: 4}, {A: -1}, {A: maxCoef, B: 1, C: maxTop}}
	for _, p := range wrongRegions() {
		for _, h := range halves {
			got, ok := impl.CutRegion(p, h)
			checkRegion(t, "CutRegion", p, got, ok, impl.Region{}, false)
		}
	}
}

func TestCutRegionNumberOfHalves(t *testing.T) {
	full := impl.Region{Halves: roundHalves(maxHalves, 500, 0)}
	almost := impl.Region{Halves: roundHalves(maxHalves-1, 500, 0)}
	// The border of the second one passes just within the corner after the first edge of almost.
	halves := []impl.Half{{A: 1, C: 9}, {A: 1000, B: 80, C: 502500}, {A: 1, C: 900}, {A: 1, C: -900}, full.Halves[3], almost.Halves[3]}
	most := 0
	for _, h := range halves {
		got, ok := impl.CutRegion(full, h)
		checkRegion(t, "CutRegion", h, got, ok, impl.Region{}, false)
		want, wantOk := regionByBig(append(slices.Clone(almost.Halves), h))
		got, ok = impl.CutRegion(almost, h)
		checkRegion(t, "CutRegion", h, got, ok, want, wantOk)
		most = max(most, len(got.Halves))
	}
	if most != maxHalves {
		t.Errorf("only %d edges are left", most)
	}
}

func TestCutRegionSweep(t *testing.T) {
	source := rand.New(rand.NewPCG(6, 4))
	pools := regionPools()
	list := sweepRegions(5, 80)
	edges := map[int]int{}
	for i, p := range list {
		pool := pools[i/80]
		for range 8 {
			h := pool[source.IntN(len(pool))]
			want, wantOk := regionByBig(append(slices.Clone(p.Halves), h))
			got, ok := impl.CutRegion(p, h)
			checkRegion(t, "CutRegion", []any{p, h}, got, ok, want, wantOk)
			edges[len(got.Halves)-len(p.Halves)]++
		}
	}
	if edges[-1] < 30 || edges[0] < 30 || edges[1] < 30 {
		t.Errorf("so often the number of edges changes so much: %v", edges)
	}
}

// A half plane through a corner, between the angles of both edges, is no edge; a step of its C decides.
func TestCutRegionNextToCorner(t *testing.T) {
	tested := 0
	for _, p := range append(goodRegions(), sweepRegions(6, 10)...) {
		for i, g := range p.Halves {
			h := p.Halves[(i+1)%len(p.Halves)]
			for step := -1; step <= 1; step++ {
				sum := impl.Half{A: g.A + h.A, B: g.B + h.B, C: g.C + h.C + step}
				if len(p.Halves) == maxHalves || !validHalfByBig(sum) {
					continue
				}
				tested++
				got, ok := impl.CutRegion(p, sum)
				want, wantOk := regionByBig(append(slices.Clone(p.Halves), sum))
				checkRegion(t, "CutRegion", []any{p, sum}, got, ok, want, wantOk)
				if slices.Contains(got.Halves, sum) != (step < 0) && len(got.Halves) > 0 {
					t.Errorf("CutRegion(%v, %v) = %v", p, sum, got)
				}
			}
		}
	}
	if tested < 300 {
		t.Errorf("only %d corners", tested)
	}
}

type supportCase struct {
	halves []impl.Half
	a      int
	b      int
	want   impl.Ratio
	at     int
}

func supportCases() []supportCase {
	triangle, frame, box := triangleAnd(), frameList(), boxAnd(-5, -7, -3, -4)
	parts := []impl.Half{{A: 2, C: 1}, {B: 3, C: 2}, {A: -7, B: -5, C: 1}}
	whole := func(n int) impl.Ratio { return impl.Ratio{N: n, D: 1} }
	return []supportCase{
		// At one corner.
		{triangle, 1, 2, whole(8), 0},
		{triangle, 0, 1, whole(4), 0},
		{triangle, -1, -1, whole(0), 1},
		{triangle, 1, 0, whole(4), 2},
		{triangle, 2, 1, whole(8), 2},
		{triangle, 3, -7, whole(12), 2},
		{triangle, -7, 3, whole(12), 0},
		{parts, 1, 1, impl.Ratio{N: 7, D: 6}, 0},
		{parts, -1, 0, impl.Ratio{N: 13, D: 21}, 1},
		{parts, -3, 1, impl.Ratio{N: 53, D: 21}, 1},
		{parts, 0, -1, impl.Ratio{N: 9, D: 10}, 2},
		{parts, 2, -3, impl.Ratio{N: 37, D: 10}, 2},
		// Along an edge, where two corners are equally far.
		{triangle, 1, 1, whole(4), 0},
		{triangle, -1, 0, whole(0), 0},
		{triangle, 0, -1, whole(0), 1},
		{triangle, 5, 5, whole(20), 0},
		{parts, 1, 0, impl.Ratio{N: 1, D: 2}, 0},
		{parts, 0, 1, impl.Ratio{N: 2, D: 3}, 0},
		{parts, -7, -5, whole(1), 1},
		{box, 1, 0, whole(-3), 0},
		{box, 0, 1, whole(-4), 0},
		{box, -1, 0, whole(5), 1},
		{box, 0, -1, whole(7), 2},
		// Only with negative values.
		{box, 1, 1, whole(-7), 0},
		{box, 2, 3, whole(-18), 0},
		// Everywhere.
		{triangle, 0, 0, whole(0), 0},
		{parts, 0, 0, whole(0), 0},
		{box, 0, 0, whole(0), 0},
		// At the limits.
		{triangle, maxCoef, maxCoef, whole(4 * maxCoef), 0},
		{triangle, maxCoef, maxCoef - 1, whole(4 * maxCoef), 2},
		{triangle, -maxCoef, -maxCoef, whole(0), 1},
		{triangle, 0, maxCoef, whole(4 * maxCoef), 0},
		{triangle, -maxCoef, 0, whole(0), 0},
		{frame, maxCoef, maxCoef, whole(2 * maxCoef * maxPlace), 0},
		{frame, -maxCoef, maxCoef, whole(2 * maxCoef * maxPlace), 1},
		{frame, -maxCoef, -maxCoef, whole(2 * maxCoef * maxPlace), 2},
		{frame, maxCoef, -maxCoef, whole(2 * maxCoef * maxPlace), 3},
	}
}

func TestSupportAndFarthest(t *testing.T) {
	for _, c := range supportCases() {
		p := impl.Region{Halves: c.halves}
		got, ok := impl.SupportOf(p, c.a, c.b)
		checkRatio(t, "SupportOf", c, got, ok, c.want, true)
		if at := impl.FarthestCorner(p, c.a, c.b); at != c.at {
			t.Errorf("FarthestCorner of %v = %d", c, at)
		}
		value, at := farthestByBig(p, c.a, c.b)
		if want, _ := ratioOfRat(value); want != c.want || at != c.at {
			t.Errorf("farthestByBig of %v = %v, %d", c, value, at)
		}
	}
}

// checkSupport compares SupportOf, FarthestCorner and WidthOf with an independent calculation.
func checkSupport(t *testing.T, p impl.Region, a int, b int) {
	t.Helper()
	args := []any{p, a, b}
	value, wantAt := farthestByBig(p, a, b)
	want, wantOk := ratioOfRat(value)
	got, ok := impl.SupportOf(p, a, b)
	checkRatio(t, "SupportOf", args, got, ok, want, wantOk)
	if at := impl.FarthestCorner(p, a, b); at != wantAt {
		t.Errorf("FarthestCorner of %v = %d, want %d", args, at, wantAt)
	}
	want, wantOk = widthByBig(p, a, b)
	got, ok = impl.WidthOf(p, a, b)
	checkRatio(t, "WidthOf", args, got, ok, want, wantOk)
}

// The value of an edge is its C, and it is reached at both of its corners.
func TestSupportAlongEveryEdge(t *testing.T) {
	for _, p := range append(goodRegions(), sweepRegions(7, 40)...) {
		for i, h := range p.Halves {
			got, ok := impl.SupportOf(p, h.A, h.B)
			checkRatio(t, "SupportOf", []any{p, h}, got, ok, impl.Ratio{N: h.C, D: 1}, true)
			if at := impl.FarthestCorner(p, h.A, h.B); at != max(i-1, 0) {
				t.Errorf("FarthestCorner of %v along its edge %d = %d", p, i, at)
			}
			checkSupport(t, p, h.A, h.B)
		}
	}
}

func TestSupportSweep(t *testing.T) {
	source := rand.New(rand.NewPCG(6, 8))
	numbers := []int{-maxCoef, 1 - maxCoef, -20011, -7, -1, 0, 1, 3, 24999, maxCoef - 1, maxCoef}
	for _, p := range append(goodRegions(), sweepRegions(9, 40)...) {
		for range 12 {
			checkSupport(t, p, numbers[source.IntN(len(numbers))], numbers[source.IntN(len(numbers))])
			checkSupport(t, p, source.IntN(2*maxCoef+1)-maxCoef, source.IntN(2*maxCoef+1)-maxCoef)
		}
		// Next to the direction of an edge, its two corners differ least.
		for _, h := range p.Halves {
			for _, step := range [][2]int{{1, 0}, {-1, 0}, {0, 1}, {0, -1}} {
				if a, b := h.A+step[0], h.B+step[1]; within(a, -maxCoef, maxCoef) && within(b, -maxCoef, maxCoef) {
					checkSupport(t, p, a, b)
				}
			}
		}
	}
}

func checkNoSupport(t *testing.T, p impl.Region, a int, b int) {
	t.Helper()
	args := []any{p, a, b}
	got, ok := impl.SupportOf(p, a, b)
	checkRatio(t, "SupportOf", args, got, ok, impl.Ratio{}, false)
	got, ok = impl.WidthOf(p, a, b)
	checkRatio(t, "WidthOf", args, got, ok, impl.Ratio{}, false)
	if at := impl.FarthestCorner(p, a, b); at != -1 {
		t.Errorf("FarthestCorner of %v = %d", args, at)
	}
}

func TestSupportInvalidNumbers(t *testing.T) {
	good := []int{-maxCoef, -1, 0, 1, maxCoef}
	wrong := []int{math.MinInt, math.MinInt + 1, -1 << 62, -1 << 32, -maxCoef - 1, maxCoef + 1, 1 << 32, 1 << 62, math.MaxInt - 1, math.MaxInt}
	for _, p := range []impl.Region{{Halves: triangleAnd()}, {Halves: frameList()}, {Halves: roundHalves(maxHalves, 500, 0)}, {}} {
		for _, n := range wrong {
			for _, m := range good {
				checkNoSupport(t, p, n, m)
				checkNoSupport(t, p, m, n)
			}
			for _, m := range wrong {
				checkNoSupport(t, p, n, m)
			}
		}
	}
}

func TestSupportInvalidRegions(t *testing.T) {
	for _, p := range append(wrongRegions(), voidRegions()...) {
		for _, d := range [][2]int{{0, 0}, {1, 2}, {-1, 0}, {0, maxCoef}, {maxCoef, -maxCoef}, {1, 1}} {
			checkNoSupport(t, p, d[0], d[1])
		}
	}
}

func TestWidthOf(t *testing.T) {
	parts := []impl.Half{{A: 2, C: 1}, {B: 3, C: 2}, {A: -7, B: -5, C: 1}}
	whole := func(n int) impl.Ratio { return impl.Ratio{N: n, D: 1} }
	cases := []struct {
		halves []impl.Half
		a      int
		b      int
		want   impl.Ratio
	}{
		{triangleAnd(), 1, 0, whole(4)},
		{triangleAnd(), -1, 0, whole(4)},
		{triangleAnd(), 0, 1, whole(4)},
		{triangleAnd(), 1, 1, whole(4)},
		{triangleAnd(), 1, -1, whole(8)},
		{triangleAnd(), 3, -7, whole(40)},
		{triangleAnd(), 0, 0, whole(0)},
		{boxAnd(-5, -7, -3, -4), 1, 0, whole(2)},
		{boxAnd(-5, -7, -3, -4), 0, -1, whole(3)},
		{boxAnd(-5, -7, -3, -4), 2, 3, whole(13)},
		{boxAnd(3, 4, 5, 7), -2, -3, whole(13)},
		{parts, 1, 0, impl.Ratio{N: 47, D: 42}},
		{parts, 0, 1, impl.Ratio{N: 47, D: 30}},
		{parts, 1, 1, impl.Ratio{N: 47, D: 30}},
		{parts, 0, 0, whole(0)},
		{frameList(), maxCoef, maxCoef, whole(4 * maxCoef * maxPlace)},
		{frameList(), -maxCoef, maxCoef, whole(4 * maxCoef * maxPlace)},
		{frameList(), maxCoef, 0, whole(2 * maxCoef * maxPlace)},
		{[]impl.Half{{A: 2, C: 1}, {B: 1, C: 1}, {A: -2, C: 1}, {B: -1}}, 1, 0, whole(1)},
	}
	for _, c := range cases {
		p := impl.Region{Halves: c.halves}
		got, ok := impl.WidthOf(p, c.a, c.b)
		checkRatio(t, "WidthOf", c, got, ok, c.want, true)
		got, ok = widthByBig(p, c.a, c.b)
		checkRatio(t, "widthByBig", c, got, ok, c.want, true)
	}
}

// limitCase has the four numbers of WidthOf as texts, since some of them are not ints.
type limitCase struct {
	name   string
	halves []impl.Half
	a      int
	b      int
	parts  [4]string
	want   impl.Ratio
}

// skewed has the corners' denominator that the edges' directions (a1, b1) and (-a2, b2) give, and is its own mirror image.
func skewed(a1 int, b1 int, c1 int, a2 int, b2 int, c2 int) []impl.Half {
	return []impl.Half{{A: a1, B: b1, C: c1}, {A: -a2, B: b2, C: c2}, {A: -a1, B: -b1, C: c1}, {A: a2, B: -b2, C: c2}}
}

// wedge reaches from a corner on the left whose denominator is 46875*46875 to a border on the right.
func wedge(top int, c2 int, c3 int) []impl.Half {
	return []impl.Half{{A: 49999, C: top}, {A: -46875, B: 23437, C: c2}, {A: -46875, B: -23438, C: c3}}
}

// tilted has its greatest y at a corner with the denominator 1179648 and is its own mirror image.
func tilted(c1 int, c2 int) []impl.Half {
	return []impl.Half{{A: 36864, C: c1}, {A: -7, B: 32, C: c2}, {A: -36864, C: c1}, {A: 7, B: -32, C: c2}}
}

// denominatorCases are around the limit of r.D*s.D, and around that of a valid denominator.
func denominatorCases() []limitCase {
	return []limitCase{
		{"product of the denominators below the limit", skewed(50000, 23649, 1, 21151, 49996, 1), 1, 0,
			[4]string{"220934999926355", "220934999926355", "441869999852710", "8999999994000000001"}, impl.Ratio{N: 147290, D: 2999999999}},
		{"product of the denominators at the limit", skewed(50000, 45625, 1, 10960, 49999, 4), 1, 0,
			[4]string{"697497000000000", "697497000000000", "1394994000000000", "9000000000000000000"}, impl.Ratio{N: 232499, D: 1500000000}},
		{"product of the denominators beyond the limit", skewed(50000, 42269, 1, 11829, 50000, 1), 1, 0,
			[4]string{"276807000092269", "276807000092269", "553614000184538", "9000000006000000001"}, impl.Ratio{}},
		{"product of the denominators almost beyond an int", skewed(50000, 13991, 1, 38389, 49998, 1), 1, 0,
			[4]string{"194334624930511", "194334624930511", "388669249861022", "9223372030926249001"}, impl.Ratio{}},
		{"product of the denominators beyond an int", skewed(50000, 42425, 1, 12660, 49998, 1), 1, 0,
			[4]string{"280688697211500", "280688697211500", "561377394423000", "9223372037000250000"}, impl.Ratio{}},
		{"product of the denominators that wraps round to 0", skewed(50000, 46914, 1, 38264, 49997, 1), 1, 0,
			[4]string{"416229575622656", "416229575622656", "832459151245312", "18446744073709551616"}, impl.Ratio{}},
		{"product of the denominators that wraps round", skewed(50000, 46819, 1, 38363, 49977, 1), 1, 0,
			[4]string{"415735654480412", "415735654480412", "831471308960824", "18446744082299486209"}, impl.Ratio{}},
		{"denominator just valid", []impl.Half{{A: 11821, B: 5225, C: 1}, {A: -883, B: 4583, C: 1}, {A: -883, B: -4584, C: 2}, {A: 11821, B: -5226, C: 2}}, 1, 0,
			[4]string{"126888770636", "1698692476250", "1825581246886", "999999999999931"}, impl.Ratio{N: 1825581246886, D: 999999999999931}},
		{"denominator just not valid", []impl.Half{{A: 42101, B: 7574, C: 1}, {A: -8209, B: 95, C: 2}, {A: -8209, B: -96, C: 3}, {A: 42101, B: -7575, C: 27}}, 1, 0,
			[4]string{"332513286087", "304224899373", "636738185460", "1000000000000031"}, impl.Ratio{}},
	}
}

// numeratorCases are around the limits of r.N*s.D and of the sum, and around that of a valid numerator.
func numeratorCases() []limitCase {
	return []limitCase{
		{"first product below the limit", wedge(124999, -112500, -112499), 32768, 0,
			[4]string{"8999928000000000000", "-8639788801587183616", "360139198412816384", "109861083984375"}, impl.Ratio{N: 360139198412816384, D: 109861083984375}},
		{"first product at the limit", wedge(125000, -112501, -112500), 32768, 0,
			[4]string{"9000000000000000000", "-8639865600051183616", "360134399948816384", "109861083984375"}, impl.Ratio{N: 360134399948816384, D: 109861083984375}},
		{"first product next beyond the limit", []impl.Half{{A: 49999, C: 9613537}, {A: -491, B: 38388, C: -88900}, {A: -491, B: -38389, C: -88899}}, 24834, 0,
			[4]string{"9000000000000000006", "-8474975510730127392", "525024489269872614", "1884837652493"}, impl.Ratio{}},
		{"first product beyond the limit", wedge(125001, -112502, -112501), 32768, 0,
			[4]string{"9000072000000000000", "-8639942398515183616", "360129601484816384", "109861083984375"}, impl.Ratio{}},
		{"first product almost beyond an int", wedge(128101, -115293, -115292), 32768, 0,
			[4]string{"9223272000000000000", "-8854286911539183616", "368985088460816384", "109861083984375"}, impl.Ratio{}},
		{"first product beyond an int", wedge(128103, -115294, -115293), 32768, 0,
			[4]string{"9223416000000000000", "-8854363710003183616", "369052289996816384", "109861083984375"}, impl.Ratio{}},
		{"both products beyond the limit", wedge(140001, -126002, -126001), 32768, 0,
			[4]string{"10080072000000000000", "-9676721662515183616", "403350337484816384", "109861083984375"}, impl.Ratio{}},
		{"both products wrap round", wedge(256207, -230590, -230589), 32768, 0,
			[4]string{"18446904000000000000", "-17708919415347183616", "737984584652816384", "109861083984375"}, impl.Ratio{}},
		{"sum at the limit", tilted(19687, 6619), 0, 15625,
			[4]string{"4500000000000000000", "4500000000000000000", "9000000000000000000", "1391569403904"}, impl.Ratio{N: 3814697265625, D: 589824}},
		{"sum beyond the limit", tilted(19693, 6619), 0, 15625,
			[4]string{"4500000774144000000", "4500000774144000000", "9000001548288000000", "1391569403904"}, impl.Ratio{}},
		{"sum almost beyond an int", tilted(19687, 6769), 0, 15625,
			[4]string{"4601921587200000000", "4601921587200000000", "9203843174400000000", "1391569403904"}, impl.Ratio{}},
		{"numerator just valid", wedge(125000, -104140, -104198), 32768, 0,
			[4]string{"9000000000000000000", "-8000019148903350272", "999980851096649728", "109861083984375"}, impl.Ratio{N: 999980851096649728, D: 109861083984375}},
		{"numerator just not valid", wedge(125000, -104198, -104139), 32768, 0,
			[4]string{"9000000000000000000", "-7999980845515833344", "1000019154484166656", "109861083984375"}, impl.Ratio{}},
	}
}

func TestWidthOfLimits(t *testing.T) {
	for _, c := range append(denominatorCases(), numeratorCases()...) {
		p := impl.Region{Halves: c.halves}
		if !validRegionByBig(p) {
			t.Errorf("%s: not valid", c.name)
		}
		for i, n := range widthParts(p, c.a, c.b) {
			if n.String() != c.parts[i] {
				t.Errorf("%s: the number %d is %v", c.name, i, n)
			}
		}
		wantOk := c.want != impl.Ratio{}
		got, ok := impl.WidthOf(p, c.a, c.b)
		checkRatio(t, "WidthOf: "+c.name, p, got, ok, c.want, wantOk)
		// The other way round, the first two numbers change places.
		got, ok = impl.WidthOf(p, -c.a, -c.b)
		checkRatio(t, "WidthOf: the other way round: "+c.name, p, got, ok, c.want, wantOk)
		checkSupport(t, p, c.a, c.b)
		checkSupport(t, p, -c.a, -c.b)
	}
}

func TestWidthOfSumBeyondInt(t *testing.T) {
	for c2 := 6600; c2 < 12000; c2 += 101 {
		p := impl.Region{Halves: tilted(19687, c2)}
		checkSupport(t, p, 0, 15625)
		checkSupport(t, p, 0, -15625)
	}
}

func TestIsCorner(t *testing.T) {
	triangle := impl.Region{Halves: triangleAnd()}
	for _, s := range []impl.Spot{{Y: 4, D: 1}, {D: 1}, {X: 4, D: 1}} {
		if !impl.IsCorner(triangle, s) {
			t.Errorf("%v is not a corner", s)
		}
	}
	others := []impl.Spot{
		{X: 1, D: 1}, {X: 2, Y: 2, D: 1}, {Y: 7, D: 2}, {X: 1, Y: 1, D: 1}, {X: 1, Y: 1, D: 3}, {X: 4, Y: 4, D: 1}, {X: -4, D: 1}, {X: 5, D: 1}, {X: -1, Y: -1, D: 1},
		{X: 1, D: maxDen}, {Y: 4*maxDen - 1, D: maxDen}, {X: maxPlace, Y: maxPlace, D: 1},
		{}, {Y: 8, D: 2}, {X: 8, D: 2}, {D: 2}, {X: -4, D: -1}, {D: -1}, {X: 4}, {Y: 4},
	}
	for _, s := range others {
		if impl.IsCorner(triangle, s) {
			t.Errorf("%v is a corner", s)
		}
	}
}

func TestIsCornerOfEveryRegion(t *testing.T) {
	for _, p := range append(goodRegions(), sweepRegions(10, 5)...) {
		corners := orderedCorners(p)
		spots := slices.Concat(validSpots(), invalidSpots(), corners)
		for i, s := range corners {
			spots = append(spots, impl.Spot{X: 2 * s.X, Y: 2 * s.Y, D: 2 * s.D}, impl.Spot{X: -s.X, Y: -s.Y, D: -s.D}, impl.Spot{X: s.X + 1, Y: s.Y, D: s.D}, impl.Spot{X: s.Y, Y: s.X, D: s.D})
			if middle, ok := impl.HalfWay(s, corners[(i+1)%len(corners)]); ok {
				spots = append(spots, middle)
			}
		}
		for _, s := range spots {
			if got := impl.IsCorner(p, s); got != slices.Contains(corners, s) {
				t.Errorf("IsCorner(%v, %v) = %v", p, s, got)
			}
		}
	}
}

func TestIsCornerInvalid(t *testing.T) {
	for _, p := range append(wrongRegions(), voidRegions()...) {
		spots := append(invalidSpots(), impl.Spot{D: 1}, impl.Spot{X: 4, D: 1}, impl.Spot{Y: 4, D: 1}, impl.Spot{X: 2, Y: 2, D: 1})
		for i, g := range p.Halves {
			if h := p.Halves[(i+1)%len(p.Halves)]; validHalfByBig(g) && validHalfByBig(h) {
				s, _ := crossingByBig(g, h)
				spots = append(spots, s)
			}
		}
		for _, s := range spots {
			if impl.IsCorner(p, s) {
				t.Errorf("IsCorner(%v, %v) is true", p, s)
			}
		}
	}
}

func TestInnerSpot(t *testing.T) {
	cases := []struct {
		name   string
		halves []impl.Half
		want   impl.Spot
	}{
		{"at a corner", triangleAnd(), impl.Spot{D: 1}},
		{"at a corner of a box", boxAnd(-1, 0, 2, 1), impl.Spot{X: -1, D: 1}},
		{"at a corner of the frame", frameList(), impl.Spot{X: -maxPlace, Y: -maxPlace, D: 1}},
		{"at the last corner of the frame", boxAnd(maxPlace-1, maxPlace-1, maxPlace, maxPlace), impl.Spot{X: maxPlace - 1, Y: maxPlace - 1, D: 1}},
		{"at the corner on the left", diamond(2), impl.Spot{X: -2, D: 1}},
		{"the only one", []impl.Half{{A: 2, C: 1}, {B: 2, C: 1}, {A: -2, C: 1}, {B: -2, C: 1}}, impl.Spot{D: 1}},
		{"the only one at the right of the frame", []impl.Half{{A: 1, C: maxPlace}, {B: 2, C: 1}, {A: -2, C: 1 - 2*maxPlace}, {B: -2, C: 1}}, impl.Spot{X: maxPlace, D: 1}},
		{"the only one at the top of the frame", []impl.Half{{A: 2, C: 1}, {B: 1, C: maxPlace}, {A: -2, C: 1}, {B: -2, C: 1 - 2*maxPlace}}, impl.Spot{Y: maxPlace, D: 1}},
		{"the only one at a corner of the frame", []impl.Half{{A: 2, B: 2, C: -3999}, {A: -1, C: maxPlace}, {B: -1, C: maxPlace}}, impl.Spot{X: -maxPlace, Y: -maxPlace, D: 1}},
		{"the only one on an edge", []impl.Half{{A: 1}, {A: -2, B: 3, C: 2}, {A: -2, B: -3, C: 2}}, impl.Spot{X: -1, D: 1}},
		{"several of the same X", []impl.Half{{A: 2, C: 1}, {B: 1, C: 3}, {A: -2, C: 1}, {B: -1, C: 2}}, impl.Spot{Y: -2, D: 1}},
		{"several of the same X above a third", []impl.Half{{A: 2, C: 1}, {B: 1, C: 3}, {A: -2, C: 1}, {B: -3, C: -1}}, impl.Spot{Y: 1, D: 1}},
		{"several of the same X below the origin", []impl.Half{{A: 2, C: 1}, {B: 1, C: 3}, {A: -2, C: 1}, {B: -3, C: 4}}, impl.Spot{Y: -1, D: 1}},
		{"several of each X", []impl.Half{{A: 2, C: 7}, {B: 1, C: 3}, {A: -2, C: -1}, {B: -1, C: 2}}, impl.Spot{X: 1, Y: -2, D: 1}},
		{"lower ones farther to the right", []impl.Half{{A: 1, B: 1, C: 4}, {A: -1, B: 1, C: 9}, {A: -1, B: -1, C: -3}, {A: 1, B: -1, C: 5}}, impl.Spot{X: -3, Y: 6, D: 1}},
		{"none at the X of its first corner", []impl.Half{{B: 2, C: 1}, {A: -3, B: 1, C: 4}, {A: -2, B: -2, C: 3}, {A: 2, B: -3, C: 5}}, impl.Spot{X: -1, D: 1}},
	}
	for _, c := range cases {
		p := impl.Region{Halves: c.halves}
		if !validRegionByBig(p) {
			t.Errorf("%s: not valid", c.name)
		}
		got, ok := impl.InnerSpot(p)
		checkSpot(t, "InnerSpot: "+c.name, c.halves, got, ok, c.want, true)
		got, ok = innerByTrying(c.halves)
		checkSpot(t, "innerByTrying: "+c.name, c.halves, got, ok, c.want, true)
	}
}

func TestInnerSpotNone(t *testing.T) {
	none := [][]impl.Half{
		{{A: 3, C: 2}, {B: 3, C: 2}, {A: -3, C: -1}, {B: -3, C: -1}},
		{{A: 3, C: 2}, {B: 1, C: 3}, {A: -3, C: -1}, {B: -1}},
		{{A: 1, C: 3}, {B: 3, C: 2}, {A: -1}, {B: -3, C: -1}},
		{{A: 4, B: 4, C: 3}, {A: -4, C: -1}, {B: -4, C: -1}},
		{{A: 1, C: maxPlace}, {A: 1, B: 2, C: maxPlace + 1}, {A: -2, C: 1 - 2*maxPlace}, {A: -1, B: -3, C: -maxPlace - 1}},
	}
	for _, halves := range none {
		if !validRegionByBig(impl.Region{Halves: halves}) {
			t.Errorf("%v is not valid", halves)
		}
		got, ok := impl.InnerSpot(impl.Region{Halves: halves})
		checkSpot(t, "InnerSpot", halves, got, ok, impl.Spot{}, false)
		if s, found := innerByTrying(halves); found {
			t.Errorf("%v has %v", halves, s)
		}
	}
	for _, p := range append(wrongRegions(), voidRegions()...) {
		got, ok := impl.InnerSpot(p)
		checkSpot(t, "InnerSpot", p, got, ok, impl.Spot{}, false)
	}
}

func TestInnerSpotSweep(t *testing.T) {
	none := 0
	for _, p := range append(goodRegions(), sweepRegions(11, 15)...) {
		want, wantOk := innerByTrying(p.Halves)
		got, ok := impl.InnerSpot(p)
		checkSpot(t, "InnerSpot", p, got, ok, want, wantOk)
		if !wantOk {
			none++
		}
		if ok != (impl.WholeSpots(p) > 0) || ok && !impl.HasSpot(p, got) {
			t.Errorf("InnerSpot(%v) = %v, %v", p, got, ok)
		}
	}
	if none < 3 {
		t.Errorf("only %d regions have no whole spot", none)
	}
}

func TestCutsLeaveTheirArguments(t *testing.T) {
	lists := [][]impl.Half{nil, roundHalves(20, 500, 0.5)}
	for _, p := range append(goodRegions(), wrongRegions()...) {
		lists = append(lists, p.Halves)
	}
	others := [][]impl.Half{nil, triangleAnd(), frameList(), roundHalves(20, 500, 0), {{A: 1}}}
	for _, halves := range lists {
		for _, more := range others {
			arg, other := withSpare(halves), withSpare(more)
			p, q := impl.Region{Halves: arg}, impl.Region{Halves: other}
			impl.MeetRegions(p, q)
			impl.MeetRegions(q, p)
			impl.MeetRegions(p, p)
			impl.CutRegion(p, impl.Half{A: 1, B: 1, C: 3})
			impl.CutRegion(p, impl.Half{A: 1, B: 1, C: maxTop})
			impl.IsWithin(p, q)
			impl.IsWithin(q, p)
			impl.SupportOf(p, 1, 2)
			impl.WidthOf(p, 1, 2)
			impl.FarthestCorner(p, 1, 2)
			impl.IsCorner(p, impl.Spot{D: 1})
			impl.InnerSpot(p)
			if !isUntouched(arg, halves) || !isUntouched(other, more) {
				t.Errorf("%v or %v is changed", halves, more)
			}
		}
	}
}

// The spare capacity behind an argument does not count, whatever it holds.
func TestCutsIgnoreSpareCapacity(t *testing.T) {
	for _, p := range goodRegions() {
		arg := impl.Region{Halves: withSpare(p.Halves)}
		tight := impl.Region{Halves: slices.Clip(slices.Clone(p.Halves))}
		for _, h := range []impl.Half{{A: 1, B: 1, C: 3}, {A: 1, B: 1, C: maxTop}, {A: -1, C: -5}} {
			got, ok := impl.CutRegion(arg, h)
			want, wantOk := impl.CutRegion(tight, h)
			checkRegion(t, "CutRegion", []any{p, h}, got, ok, want, wantOk)
		}
		got, ok := impl.MeetRegions(arg, impl.Region{Halves: withSpare(triangleAnd())})
		want, wantOk := impl.MeetRegions(tight, impl.Region{Halves: triangleAnd()})
		checkRegion(t, "MeetRegions", p, got, ok, want, wantOk)
	}
}

func TestCutsAreNewEachTime(t *testing.T) {
	calls := map[string]func(p impl.Region) (impl.Region, bool){
		"the frame":      func(p impl.Region) (impl.Region, bool) { return impl.MeetRegions(p, impl.Region{Halves: frameList()}) },
		"from the frame": func(p impl.Region) (impl.Region, bool) { return impl.MeetRegions(impl.Region{Halves: frameList()}, p) },
		"itself":         func(p impl.Region) (impl.Region, bool) { return impl.MeetRegions(p, p) },
		"a miss":         func(p impl.Region) (impl.Region, bool) { return impl.CutRegion(p, impl.Half{A: 1, B: 1, C: maxTop}) },
		"an edge":        func(p impl.Region) (impl.Region, bool) { return impl.CutRegion(p, p.Halves[0]) },
	}
	for name, call := range calls {
		for _, p := range goodRegions() {
			arg := impl.Region{Halves: withSpare(p.Halves)}
			first, ok := call(arg)
			second, _ := call(arg)
			if !ok {
				continue
			}
			if !slices.Equal(first.Halves, p.Halves) {
				t.Errorf("%s: %v becomes %v", name, p, first)
			}
			scribble(first.Halves)
			if !isUntouched(arg.Halves, p.Halves) || !slices.Equal(second.Halves, p.Halves) {
				t.Errorf("%s: a result for %v shares memory", name, p)
			}
			scribble(arg.Halves)
			if !slices.Equal(second.Halves, p.Halves) {
				t.Errorf("%s: a result for %v shares memory with its argument", name, p)
			}
		}
	}
}
