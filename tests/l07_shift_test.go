package tests

import (
	"maps"
	"math"
	"math/big"
	"math/rand/v2"
	"slices"
	"testing"

	"loop.example/g00832/impl"
)

const (
	maxShift   = 2 * maxPlace
	maxDrive   = 100
	maxInput   = 1000
	maxMapPart = 20
)

// point lies anywhere in the plane, also outside the frame.
type point struct {
	x *big.Rat
	y *big.Rat
}

func pointOf(s impl.Spot) point {
	x, y := spotRats(s)
	return point{x, y}
}

func whole(n int) *big.Rat {
	return big.NewRat(int64(n), 1)
}

// plus returns the point moved by n times q.
func (p point) plus(n int, q point) point {
	moved := func(a *big.Rat, b *big.Rat) *big.Rat {
		product := new(big.Rat).Mul(whole(n), b)
		return product.Add(a, product)
	}
	return point{moved(p.x, q.x), moved(p.y, q.y)}
}

// along returns a*x + b*y.
func (p point) along(a int, b int) *big.Rat {
	first, second := new(big.Rat).Mul(whole(a), p.x), new(big.Rat).Mul(whole(b), p.y)
	return first.Add(first, second)
}

func (p point) liesIn(halves []impl.Half) bool {
	return !slices.ContainsFunc(halves, func(h impl.Half) bool { return p.along(h.A, h.B).Cmp(whole(h.C)) > 0 })
}

func pointsOf(spots []impl.Spot) []point {
	var list []point
	for _, s := range spots {
		list = append(list, pointOf(s))
	}
	return list
}

// halfByRat returns the valid half plane with a*x + b*y <= top, and the zero value and false if there is none.
func halfByRat(a int, b int, top *big.Rat) (impl.Half, bool) {
	parts := []*big.Int{new(big.Int).Mul(big.NewInt(int64(a)), top.Denom()), new(big.Int).Mul(big.NewInt(int64(b)), top.Denom()), top.Num()}
	shared := new(big.Int).GCD(nil, nil, new(big.Int).Abs(parts[0]), new(big.Int).Abs(parts[1]))
	shared.GCD(nil, nil, shared, new(big.Int).Abs(parts[2]))
	var list [3]int
	for i, most := range []int64{maxCoef, maxCoef, maxTop} {
		n := new(big.Int).Quo(parts[i], shared)
		if n.CmpAbs(big.NewInt(most)) > 0 {
			return impl.Half{}, false
		}
		list[i] = int(n.Int64())
	}
	return impl.Half{A: list[0], B: list[1], C: list[2]}, true
}

// aroundByBig returns the region of the points of the frame that are in each direction no farther than one of the points.
func aroundByBig(directions [][2]int, points []point) (impl.Region, bool) {
	var halves []impl.Half
	for _, d := range directions {
		var most *big.Rat
		for _, p := range points {
			if value := p.along(d[0], d[1]); most == nil || value.Cmp(most) > 0 {
				most = value
			}
		}
		h, ok := halfByRat(d[0], d[1], most)
		if !ok {
			return impl.Region{}, false
		}
		halves = append(halves, h)
	}
	return regionByBig(halves)
}

func directionsOf(p impl.Region) [][2]int {
	var list [][2]int
	for _, h := range p.Halves {
		list = append(list, [2]int{h.A, h.B})
	}
	return list
}

// shiftByBig is for valid regions and moves alone, like the following ones.
func shiftByBig(p impl.Region, dx int, dy int) (impl.Region, bool) {
	if len(p.Halves) == 0 {
		return impl.Region{}, true
	}
	var points []point
	for _, s := range orderedCorners(p) {
		points = append(points, pointOf(s).plus(1, point{whole(dx), whole(dy)}))
	}
	return aroundByBig(directionsOf(p), points)
}

func erodeByBig(p impl.Region, w impl.Region) (impl.Region, bool) {
	if len(p.Halves) == 0 {
		return impl.Region{}, true
	}
	var halves []impl.Half
	for _, h := range p.Halves {
		reach, _ := farthestByBig(w, h.A, h.B)
		moved, ok := halfByRat(h.A, h.B, new(big.Rat).Sub(whole(h.C), reach))
		if !ok {
			return impl.Region{}, false
		}
		halves = append(halves, moved)
	}
	return regionByBig(halves)
}

func growByBig(p impl.Region, bx int, by int, low int, high int) (impl.Region, bool) {
	if len(p.Halves) > maxHalves-2 {
		return impl.Region{}, false
	}
	if len(p.Halves) == 0 || bx == 0 && by == 0 {
		return p, true
	}
	var points []point
	for _, s := range orderedCorners(p) {
		way := point{whole(bx), whole(by)}
		points = append(points, pointOf(s).plus(-low, way), pointOf(s).plus(-high, way))
	}
	return aroundByBig(append(directionsOf(p), [2]int{-by, bx}, [2]int{by, -bx}), points)
}

// pullByBig maps the corners back, while PullBack maps the half planes.
func pullByBig(p impl.Region, m []int, q int) (impl.Region, bool) {
	if len(p.Halves) == 0 {
		return impl.Region{}, true
	}
	back := big.NewRat(int64(q), int64(m[0]*m[3]-m[1]*m[2]))
	var points []point
	for _, s := range pointsOf(orderedCorners(p)) {
		points = append(points, point{new(big.Rat).Mul(back, s.along(m[3], -m[1])), new(big.Rat).Mul(back, s.along(-m[2], m[0]))})
	}
	var directions [][2]int
	for _, h := range p.Halves {
		directions = append(directions, [2]int{h.A*m[0] + h.B*m[2], h.A*m[1] + h.B*m[3]})
	}
	return aroundByBig(directions, points)
}

func mirrorByBig(p impl.Region) (impl.Region, bool) {
	if len(p.Halves) == 0 {
		return impl.Region{}, true
	}
	var points []point
	for _, s := range orderedCorners(p) {
		points = append(points, pointOf(impl.Spot{X: -s.X, Y: -s.Y, D: s.D}))
	}
	var directions [][2]int
	for _, h := range p.Halves {
		directions = append(directions, [2]int{-h.A, -h.B})
	}
	return aroundByBig(directions, points)
}

// mapByBig returns the point that a valid map takes a point to.
func mapByBig(s point, m []int, q int) point {
	part := big.NewRat(1, int64(q))
	return point{new(big.Rat).Mul(part, s.along(m[0], m[1])), new(big.Rat).Mul(part, s.along(m[2], m[3]))}
}

// regionOf is for half planes that have a region.
func regionOf(halves ...impl.Half) impl.Region {
	p, _ := regionByBig(halves)
	return p
}

func mirrored(p impl.Region) impl.Region {
	q, _ := mirrorByBig(p)
	return q
}

func boxOf(x0 int, y0 int, x1 int, y1 int) impl.Region {
	return impl.Region{Halves: boxAnd(x0, y0, x1, y1)}
}

// fractions returns a triangle none of whose corners is whole: 1/2,2/3 and -13/21,2/3 and 1/2,-9/10.
func fractions() impl.Region {
	return impl.Region{Halves: []impl.Half{{A: 2, C: 1}, {B: 3, C: 2}, {A: -7, B: -5, C: 1}}}
}

// lattice returns a region with n edges, from 38 to 40, whose corners are whole. The one farthest to the right is at x, y,
// and no edge is upright, so that the frame adds an edge where it cuts this corner off.
func lattice(n int, x int, y int) impl.Region {
	steps := map[impl.Half]int{}
	for a := -4; a <= 4; a++ {
		for b := -4; b <= 4; b++ {
			if impl.GcdOf(a, b) == 1 && b != 0 && a*b != 3 && a*b != -3 {
				steps[impl.Half{A: a, B: b}] = 10
			}
		}
	}
	// All edges together have to lead back to the first corner.
	switch n {
	case 39:
		steps[impl.Half{A: -1, B: -3}] = 10
		steps[impl.Half{A: 1, B: 2}] = 20
		steps[impl.Half{B: 1}] = 20
	case 40:
		steps[impl.Half{A: -1, B: -3}] = 10
		steps[impl.Half{A: 1, B: 3}] = 10
	}
	var halves []impl.Half
	for _, d := range slices.SortedFunc(maps.Keys(steps), compareAngles) {
		halves = append(halves, impl.Half{A: d.A, B: d.B, C: d.A*x + d.B*y})
		x, y = x-steps[d]*d.B, y+steps[d]*d.A
	}
	return impl.Region{Halves: halves}
}

func TestLattice(t *testing.T) {
	for n := 38; n <= 40; n++ {
		for _, x := range []int{500, 1000} {
			p := lattice(n, x, 3)
			if len(p.Halves) != n || !validRegionByBig(p) {
				t.Errorf("%v is not as it should be", p)
			}
			for i, s := range orderedCorners(p) {
				if s.D != 1 || s.X >= x && i < n-1 {
					t.Errorf("%v has the corner %v", p, s)
				}
			}
		}
	}
}

// roundRegions returns regions with many edges, so many that a cut by the frame may make too many of them.
func roundRegions() []impl.Region {
	return []impl.Region{lattice(38, 1000, 0), lattice(39, 990, 100), lattice(40, 300, -50)}
}

type shiftCase struct {
	name string
	p    impl.Region
	dx   int
	dy   int
	want impl.Region
}

func shiftCases() []shiftCase {
	triangle, frame, box := impl.Region{Halves: triangleAnd()}, impl.Region{Halves: frameList()}, boxOf(0, 0, 10, 10)
	return []shiftCase{
		{"a triangle", triangle, 2, -1, regionOf(impl.Half{A: 1, B: 1, C: 5}, impl.Half{A: -1, C: -2}, impl.Half{B: -1, C: 1})},
		{"not at all", triangle, 0, 0, triangle},
		{"a box to the right", box, 7, 0, boxOf(7, 0, 17, 10)},
		{"a box upwards", box, 0, 7, boxOf(0, 7, 10, 17)},
		{"fractions", fractions(), 3, -2, impl.Region{Halves: []impl.Half{{A: 2, C: 7}, {B: 3, C: -4}, {A: -7, B: -5, C: -10}}}},
		{"up to the corner of the frame", box, 990, 990, boxOf(990, 990, 1000, 1000)},
		{"up to the lower corner of the frame", box, -1000, -1000, boxOf(-1000, -1000, -990, -990)},
		{"across an edge", box, 995, 0, boxOf(995, 0, 1000, 10)},
		{"across a corner", box, 995, -1003, boxOf(995, -1000, 1000, -993)},
		{"the frame by a step", frame, 1, 0, boxOf(-999, -1000, 1000, 1000)},
		{"all but the corner of the frame", frame, 1999, 1999, boxOf(999, 999, 1000, 1000)},
		{"all but the lower corner of the frame", frame, 1999, -1999, boxOf(999, -1000, 1000, -999)},
		{"across the frame", boxOf(-1000, -1000, -998, -998), 1999, 1999, boxOf(999, 999, 1000, 1000)},
		{"across the frame as far as possible", regionOf(impl.Half{A: 1, C: -999}, impl.Half{B: -1, C: -999}), 2000, -2000, impl.Region{}},
		{"a slope to the corner of the frame", triangle, 998, 998, boxOf(998, 998, 1000, 1000)},
		{"a slope across the corner of the frame", triangle, 997, 998,
			impl.Region{Halves: []impl.Half{{A: 1, C: 1000}, {A: 1, B: 1, C: 1999}, {B: 1, C: 1000}, {A: -1, C: -997}, {B: -1, C: -998}}}},
		{"half a diamond", impl.Region{Halves: diamond(2)}, 1000, 0, impl.Region{Halves: []impl.Half{{A: 1, C: 1000}, {A: -1, B: 1, C: -998}, {A: -1, B: -1, C: -998}}}},
		{"nothing left by the least step", regionOf(boxAnd(0, 0, 10, 10, impl.Half{A: -50000, C: -1})...), 1000, 0, impl.Region{}},
		{"a thin strip left", regionOf(boxAnd(0, 0, 10, 10, impl.Half{A: 50000, C: 1})...), -1000, 0,
			impl.Region{Halves: []impl.Half{{A: 50000, C: 1 - 50000000}, {B: 1, C: 10}, {A: -1, C: 1000}, {B: -1}}}},
		{"a line left", box, 1000, 0, impl.Region{}},
		{"a line left below", box, 0, -1010, impl.Region{}},
		{"a line of the frame left", frame, 2000, 0, impl.Region{}},
		{"a line of the frame left below", frame, 0, -2000, impl.Region{}},
		{"a point left", box, 1000, 1000, impl.Region{}},
		{"a point of the frame left", frame, -2000, 2000, impl.Region{}},
		{"a point of a triangle left", triangle, -1004, 0, impl.Region{}},
		{"nothing left", box, 1001, 0, impl.Region{}},
		{"nothing left above", box, 0, 1001, impl.Region{}},
		{"nothing left far away", box, -2000, -2000, impl.Region{}},
		{"nothing left of a void region", impl.Region{}, 1, 1, impl.Region{}},
	}
}

func checkShift(t *testing.T, name string, p impl.Region, dx int, dy int, want impl.Region, wantOk bool) {
	t.Helper()
	got, ok := impl.ShiftRegion(p, dx, dy)
	checkRegion(t, "ShiftRegion: "+name, []any{p, dx, dy}, got, ok, want, wantOk)
}

func TestShiftRegion(t *testing.T) {
	for _, c := range shiftCases() {
		if !validRegionByBig(c.p) || !validRegionByBig(c.want) {
			t.Errorf("%s: not valid", c.name)
		}
		checkShift(t, c.name, c.p, c.dx, c.dy, c.want, true)
		// The cases also show that the calculation used for the sweeps is right.
		got, ok := shiftByBig(c.p, c.dx, c.dy)
		checkRegion(t, "shiftByBig: "+c.name, c, got, ok, c.want, true)
	}
}

// The moved half plane with the direction a, b is the only one near the limits, and it is not needed in the frame.
func TestShiftRegionLimitsOfHalves(t *testing.T) {
	const a, b = maxCoef, maxCoef - 1
	for _, x := range []int{-1, 1} {
		for _, y := range []int{-1, 1} {
			cut := func(c int) impl.Region { return regionOf(impl.Half{A: x * a, B: y * b, C: c}) }
			corner := regionOf(impl.Half{A: -x}, impl.Half{B: -y})
			checkShift(t, "below the limit", cut(999), x*1000, y*1000, corner, true)
			checkShift(t, "at the limit", cut(1000), x*1000, y*1000, corner, true)
			checkShift(t, "beyond the limit", cut(1001), x*1000, y*1000, impl.Region{}, false)
			checkShift(t, "above the lower limit", cut(-999), -x*1000, -y*1000, impl.Region{}, true)
			checkShift(t, "at the lower limit", cut(-1000), -x*1000, -y*1000, impl.Region{}, true)
			checkShift(t, "beyond the lower limit", cut(-1001), -x*1000, -y*1000, impl.Region{}, false)
			checkShift(t, "at the limit, far away", cut(0), x*2000, 0, impl.Region{}, true)
			checkShift(t, "beyond the limit, far away", cut(1), x*2000, 0, impl.Region{}, false)
			checkShift(t, "beyond the limit with nothing left", cut(1000), x*2000, y*2000, impl.Region{}, false)
		}
	}
}

func TestShiftRegionNumberOfEdges(t *testing.T) {
	for n, p := range map[int]impl.Region{38: lattice(38, 1000, 3), 39: lattice(39, 1000, 3), 40: lattice(40, 1000, 3)} {
		got, ok := impl.ShiftRegion(p, 1, 0)
		want, wantOk := shiftByBig(p, 1, 0)
		checkRegion(t, "ShiftRegion", n, got, ok, want, wantOk)
		// The frame cuts one corner off and adds one edge.
		if wantOk != (n < maxHalves) || wantOk && len(want.Halves) != n+1 {
			t.Errorf("%d edges become %d", n, len(want.Halves))
		}
		checkShift(t, "touching the frame", p, 0, 1, lattice(n, 1000, 4), true)
		checkShift(t, "within the frame", p, -1, 0, lattice(n, 999, 3), true)
		want, wantOk = shiftByBig(p, 300, 0)
		checkShift(t, "far across the frame", p, 300, 0, want, true)
		if !wantOk || len(want.Halves) < 3 {
			t.Errorf("%d edges become %d", n, len(want.Halves))
		}
	}
}

// stepInts returns ints around the limit of a place that takes values from -most to most.
func stepInts(most int) []int {
	return []int{math.MinInt, math.MinInt + 1, -1 << 32, -most - 1, -most, 1 - most, -1, 0, 1, most - 1, most, most + 1, 1 << 32, math.MaxInt - 1, math.MaxInt}
}

func TestShiftRegionFarMoves(t *testing.T) {
	for _, p := range []impl.Region{{}, {Halves: frameList()}, {Halves: triangleAnd()}, boxOf(-1000, -1000, -998, -998), boxOf(998, 998, 1000, 1000)} {
		for _, dx := range stepInts(maxShift) {
			for _, dy := range stepInts(maxShift) {
				var want impl.Region
				wantOk := within(dx, -maxShift, maxShift) && within(dy, -maxShift, maxShift)
				if wantOk {
					want, wantOk = shiftByBig(p, dx, dy)
				}
				checkShift(t, "far", p, dx, dy, want, wantOk)
			}
		}
	}
}

func TestShiftRegionVoidAndInvalid(t *testing.T) {
	for _, p := range voidRegions() {
		checkShift(t, "void", p, 0, 0, impl.Region{}, true)
		checkShift(t, "void", p, maxShift, -maxShift, impl.Region{}, true)
		checkShift(t, "void", p, maxShift+1, 0, impl.Region{}, false)
		checkShift(t, "void", p, 0, -maxShift-1, impl.Region{}, false)
	}
	for _, p := range wrongRegions() {
		for _, d := range [][2]int{{0, 0}, {1, -1}, {maxShift, maxShift}, {maxShift + 1, 0}, {math.MinInt, math.MaxInt}} {
			checkShift(t, "not valid", p, d[0], d[1], impl.Region{}, false)
		}
	}
	checkShift(t, "far too many", impl.Region{Halves: make([]impl.Half, 100000)}, 0, 0, impl.Region{}, false)
}

// movable returns valid regions of every kind.
func movable(seed uint64, number int) []impl.Region {
	return slices.Concat(goodRegions(), roundRegions(), sweepRegions(seed, number))
}

func TestShiftRegionSweep(t *testing.T) {
	source := rand.New(rand.NewPCG(7, 1))
	refused, void := 0, 0
	for _, p := range movable(20, 40) {
		for _, most := range []int{3, 1000, maxShift} {
			dx, dy := source.IntN(2*most+1)-most, source.IntN(2*most+1)-most
			want, wantOk := shiftByBig(p, dx, dy)
			checkShift(t, "sweep", p, dx, dy, want, wantOk)
			if !wantOk {
				refused++
			} else if len(want.Halves) == 0 {
				void++
			}
		}
	}
	if refused < 10 || void < 30 {
		t.Errorf("%d refused, %d void", refused, void)
	}
}

type erodeCase struct {
	name string
	p    impl.Region
	w    impl.Region
	want impl.Region
}

func erodeCases() []erodeCase {
	triangle, frame, box := impl.Region{Halves: triangleAnd()}, impl.Region{Halves: frameList()}, boxOf(-5, -5, 5, 5)
	small, unit := impl.Region{Halves: []impl.Half{{A: 1, B: 1, C: 2}, {A: -1}, {B: -1}}}, boxOf(-1, -1, 1, 1)
	d1, d2, d3 := impl.Region{Halves: diamond(1)}, impl.Region{Halves: diamond(2)}, impl.Region{Halves: diamond(3)}
	halfStep := regionOf(boxAnd(-1, -1, 1, 1, impl.Half{A: 2, C: 1})...)
	return []erodeCase{
		{"the origin inside", box, boxOf(-1, -2, 1, 2), boxOf(-4, -3, 4, 3)},
		{"the origin at a corner", box, boxOf(0, 0, 1, 2), boxOf(-5, -5, 4, 3)},
		{"the origin on an edge", box, boxOf(-1, 0, 3, 2), boxOf(-4, -5, 2, 3)},
		{"the origin outside", box, boxOf(1, 2, 3, 4), boxOf(-6, -7, 2, 1)},
		{"apart from p", box, boxOf(-10, 0, -9, 1), boxOf(5, -5, 14, 4)},
		{"cut to the frame", frame, boxOf(5, -7, 6, -3), boxOf(-1000, -993, 994, 1000)},
		{"across the frame", boxOf(990, 990, 1000, 1000), boxOf(997, -5, 1000, -4), boxOf(-7, 995, 0, 1000)},
		{"a slope", triangle, boxOf(0, 0, 1, 1), small},
		{"a slope by a slope", triangle, small, small},
		{"a diamond by a diamond", d3, d2, d1},
		{"a diamond by a box", d3, unit, d1},
		{"a box by a diamond", boxOf(-3, -3, 3, 3), d2, unit},
		{"edges lost", regionOf(boxAnd(-3, -3, 3, 3, impl.Half{A: 1, B: 1, C: 5})...), d2, unit},
		{"a box by fractions", box, fractions(), impl.Region{Halves: []impl.Half{{A: 2, C: 9}, {B: 3, C: 13}, {A: -21, C: 92}, {B: -10, C: 41}}}},
		{"a slope by fractions", triangle, fractions(), impl.Region{Halves: []impl.Half{{A: 6, B: 6, C: 17}, {A: -21, C: -13}, {B: -10, C: -9}}}},
		{"fractions that cancel", regionOf(boxAnd(-5, -5, 4, 4, impl.Half{A: 2, C: 1})...), halfStep, boxOf(-4, -4, 0, 3)},
		{"a thin strip left", boxOf(0, 0, 1, 1), regionOf(boxAnd(0, 0, 1, 1, impl.Half{A: 50000, C: 49999}, impl.Half{B: 2, C: 1})...),
			impl.Region{Halves: []impl.Half{{A: 50000, C: 1}, {B: 2, C: 1}, {A: -1}, {B: -1}}}},
		{"a line left", boxOf(-1, -5, 1, 5), unit, impl.Region{}},
		{"a level line left", boxOf(-5, -1, 5, 1), unit, impl.Region{}},
		{"a sloping line left", regionOf(impl.Half{A: 1, B: 1, C: 2}, impl.Half{A: -1, B: -1, C: 2}), unit, impl.Region{}},
		{"a point left", unit, unit, impl.Region{}},
		{"a point left of a triangle", triangle, triangle, impl.Region{}},
		{"a point left of the frame", frame, frame, impl.Region{}},
		{"a line left in the frame", boxOf(0, 0, 10, 10), boxOf(-1000, 0, -999, 1), impl.Region{}},
		{"nothing left", unit, boxOf(-2, -1, 1, 1), impl.Region{}},
		{"nothing left of a diamond", d2, d3, impl.Region{}},
		{"nothing left in the frame", boxOf(999, 0, 1000, 1), boxOf(-3, 0, -2, 1), impl.Region{}},
		{"nothing left of a void region", impl.Region{}, unit, impl.Region{}},
	}
}

func checkErode(t *testing.T, name string, p impl.Region, w impl.Region, want impl.Region, wantOk bool) {
	t.Helper()
	got, ok := impl.ErodeRegion(p, w)
	checkRegion(t, "ErodeRegion: "+name, []any{p, w}, got, ok, want, wantOk)
}

func TestErodeRegion(t *testing.T) {
	for _, c := range erodeCases() {
		if !validRegionByBig(c.p) || !validRegionByBig(c.w) || !validRegionByBig(c.want) {
			t.Errorf("%s: not valid", c.name)
		}
		checkErode(t, c.name, c.p, c.w, c.want, true)
		// The cases also show that the calculation used for the sweeps is right.
		got, ok := erodeByBig(c.p, c.w)
		checkRegion(t, "erodeByBig: "+c.name, c, got, ok, c.want, true)
		// The other way round, the regions play different parts.
		if len(c.p.Halves) > 0 {
			want, wantOk := erodeByBig(c.w, c.p)
			checkErode(t, "the other way round: "+c.name, c.w, c.p, want, wantOk)
		}
	}
}

// Here the C of one half plane is at its limits; with 33333 as its A, none of the numbers has a common divisor.
func TestErodeRegionLimitsOfTops(t *testing.T) {
	low := func(c int) impl.Region {
		return regionOf(boxAnd(-1000, -1000, -500, -500, impl.Half{A: 33333, B: 33333, C: c})...)
	}
	high := func(c int) impl.Region {
		return regionOf(boxAnd(500, 500, 1000, 1000, impl.Half{A: 33333, B: 33333, C: c})...)
	}
	p, q := regionOf(impl.Half{A: 1, B: 1, C: 1500}), regionOf(impl.Half{A: 1, B: 1, C: -1500})
	checkErode(t, "below the limit", p, low(-50000498), boxOf(0, 0, 1000, 1000), true)
	checkErode(t, "at the limit", p, low(-50000500), boxOf(0, 0, 1000, 1000), true)
	checkErode(t, "beyond the limit", p, low(-50000501), impl.Region{}, false)
	checkErode(t, "above the lower limit", q, high(50000498), impl.Region{}, true)
	checkErode(t, "at the lower limit", q, high(50000500), impl.Region{}, true)
	checkErode(t, "beyond the lower limit", q, high(50000501), impl.Region{}, false)
}

// Here A or B of one half plane is at its limits.
func TestErodeRegionLimitsOfCoefs(t *testing.T) {
	upright := func(n int) impl.Region { return regionOf(boxAnd(-1, -1, 1, 1, impl.Half{A: n, C: 1})...) }
	level := func(n int) impl.Region { return regionOf(boxAnd(-1, -1, 1, 1, impl.Half{B: n, C: 1})...) }
	cut := func(a int, b int) impl.Region { return regionOf(boxAnd(-5, -5, 5, 5, impl.Half{A: a, B: b, C: 3})...) }
	cases := []struct {
		name   string
		p      impl.Region
		w      impl.Region
		edge   impl.Half
		wantOk bool
	}{
		{"A at the limit", cut(16, 1), upright(3125), impl.Half{A: 50000, B: 3125, C: 6234}, true},
		{"A of -1 times the limit", cut(-16, 1), mirrored(upright(3125)), impl.Half{A: -50000, B: 3125, C: 6234}, true},
		{"B at the limit", cut(1, 16), level(3125), impl.Half{A: 3125, B: 50000, C: 6234}, true},
		{"B of -1 times the limit", cut(1, -16), mirrored(level(3125)), impl.Half{A: 3125, B: -50000, C: 6234}, true},
		{"A of an edge at the limit", boxOf(-5, -5, 5, 5), upright(50000), impl.Half{A: 50000, C: 249999}, true},
		{"A beyond the limit", cut(3, 1), upright(16667), impl.Half{}, false},
		{"A beyond -1 times the limit", cut(-3, 1), mirrored(upright(16667)), impl.Half{}, false},
		{"B beyond the limit", cut(1, 3), level(16667), impl.Half{}, false},
		{"B beyond -1 times the limit", cut(1, -3), mirrored(level(16667)), impl.Half{}, false},
		{"A beyond the limit with nothing left", cut(3, 1), regionOf(impl.Half{A: 16667, C: 1}), impl.Half{}, false},
		{"both far beyond the limit", cut(50000, 49999), regionOf(boxAnd(-1, -1, 1, 1, impl.Half{A: 49999, B: 50000, C: 7})...), impl.Half{}, false},
	}
	for _, c := range cases {
		if !validRegionByBig(c.p) || !validRegionByBig(c.w) {
			t.Errorf("%s: not valid", c.name)
		}
		want, wantOk := erodeByBig(c.p, c.w)
		checkErode(t, c.name, c.p, c.w, want, wantOk)
		if wantOk != c.wantOk || wantOk != slices.Contains(want.Halves, c.edge) {
			t.Errorf("%s: %v, %v", c.name, want, wantOk)
		}
	}
}

func TestErodeRegionNumberOfEdges(t *testing.T) {
	for n, p := range map[int]impl.Region{38: lattice(38, 1000, 3), 39: lattice(39, 1000, 3), 40: lattice(40, 1000, 3)} {
		// The frame cuts one corner off and adds one edge.
		w := boxOf(-2, -1, -1, 1)
		want, wantOk := erodeByBig(p, w)
		checkErode(t, "across the frame", p, w, want, wantOk)
		if wantOk != (n < maxHalves) || wantOk && len(want.Halves) != n+1 {
			t.Errorf("%d edges become %d", n, len(want.Halves))
		}
		want, wantOk = erodeByBig(p, boxOf(-1, -1, 1, 1))
		checkErode(t, "within the frame", p, boxOf(-1, -1, 1, 1), want, true)
		if !wantOk || len(want.Halves) != n {
			t.Errorf("%d edges become %d", n, len(want.Halves))
		}
		want, wantOk = erodeByBig(impl.Region{Halves: frameList()}, p)
		checkErode(t, "the frame", impl.Region{Halves: frameList()}, p, want, wantOk)
		checkErode(t, "by itself", p, p, impl.Region{}, true)
	}
}

func TestErodeRegionVoidAndInvalid(t *testing.T) {
	for _, void := range voidRegions() {
		for _, other := range voidRegions() {
			checkErode(t, "both void", void, other, impl.Region{}, false)
		}
		for _, p := range movable(21, 2) {
			checkErode(t, "by nothing", p, void, impl.Region{}, false)
			checkErode(t, "nothing", void, p, impl.Region{}, true)
		}
	}
	for _, wrong := range wrongRegions() {
		for _, p := range slices.Concat(voidRegions(), []impl.Region{wrong, boxOf(-1, -1, 1, 1), {Halves: frameList()}, lattice(40, 300, 0)}) {
			checkErode(t, "p not valid", wrong, p, impl.Region{}, false)
			checkErode(t, "w not valid", p, wrong, impl.Region{}, false)
		}
	}
	huge := impl.Region{Halves: make([]impl.Half, 100000)}
	checkErode(t, "far too many", huge, huge, impl.Region{}, false)
	checkErode(t, "far too many", huge, boxOf(-1, -1, 1, 1), impl.Region{}, false)
	checkErode(t, "far too many", boxOf(-1, -1, 1, 1), huge, impl.Region{}, false)
}

func TestErodeRegionSweep(t *testing.T) {
	source := rand.New(rand.NewPCG(7, 2))
	list := movable(22, 40)
	refused, void, left := 0, 0, 0
	for _, p := range list {
		for k := range 8 {
			w := list[source.IntN(len(list))]
			// Often a small one, by which more is left.
			if k%2 == 0 {
				h, _ := halfByBig(1+source.IntN(9), source.IntN(9), 1+source.IntN(3))
				w = regionOf(boxAnd(-1, -2, 2, 1, h)...)
			}
			want, wantOk := erodeByBig(p, w)
			checkErode(t, "sweep", p, w, want, wantOk)
			switch {
			case !wantOk:
				refused++
			case len(want.Halves) == 0:
				void++
			default:
				left++
			}
		}
		want, wantOk := erodeByBig(p, p)
		checkErode(t, "by itself", p, p, want, wantOk)
	}
	if refused < 100 || void < 100 || left < 100 {
		t.Errorf("%d refused, %d void, %d left", refused, void, left)
	}
}

// spotsNear returns the corners of a region, spots around them, and whole spots.
func spotsNear(p impl.Region) []impl.Spot {
	var list []impl.Spot
	for _, s := range orderedCorners(p) {
		for x := -1; x <= 1; x++ {
			for y := -1; y <= 1; y++ {
				if near := (impl.Spot{X: s.X + x, Y: s.Y + y, D: s.D}); validSpotByBig(near) {
					list = append(list, near)
				}
			}
		}
	}
	for x := -3; x <= 3; x++ {
		for y := -3; y <= 3; y++ {
			list = append(list, impl.Spot{X: x, Y: y, D: 1})
		}
	}
	return append(list, impl.Spot{X: 1000, Y: 1000, D: 1}, impl.Spot{X: -1000, Y: 1, D: 1}, impl.Spot{X: 1, Y: 1, D: 2}, impl.Spot{X: -1, Y: 4, D: 3})
}

// checkPoints compares a region that is not void with what its chapter says of each of its points.
func checkPoints(t *testing.T, call string, args any, got impl.Region, isIn func(s point) bool) int {
	t.Helper()
	tested := 0
	if len(got.Halves) == 0 {
		return 0
	}
	for _, s := range spotsNear(got) {
		tested++
		if want := isIn(pointOf(s)); impl.HasSpot(got, s) != want {
			t.Errorf("%s of %v = %v: %v should be in it: %v", call, args, got, s, want)
		}
	}
	return tested
}

func TestErodeRegionHasItsPoints(t *testing.T) {
	source := rand.New(rand.NewPCG(7, 3))
	list := movable(23, 10)
	tested := 0
	for _, p := range list {
		for _, w := range []impl.Region{boxOf(-1, 0, 2, 1), fractions(), list[source.IntN(len(list))]} {
			got, ok := impl.ErodeRegion(p, w)
			if !ok {
				continue
			}
			corners := pointsOf(orderedCorners(w))
			tested += checkPoints(t, "ErodeRegion", []any{p, w}, got, func(s point) bool {
				return !slices.ContainsFunc(corners, func(c point) bool { return !s.plus(1, c).liesIn(p.Halves) })
			})
		}
	}
	if tested < 1000 {
		t.Errorf("only %d spots", tested)
	}
}

func TestShiftRegionHasItsPoints(t *testing.T) {
	source := rand.New(rand.NewPCG(7, 4))
	tested := 0
	for _, p := range movable(24, 10) {
		for _, most := range []int{3, 1000} {
			dx, dy := source.IntN(2*most+1)-most, source.IntN(2*most+1)-most
			got, ok := impl.ShiftRegion(p, dx, dy)
			if !ok {
				continue
			}
			tested += checkPoints(t, "ShiftRegion", []any{p, dx, dy}, got, func(s point) bool {
				return s.plus(-1, point{whole(dx), whole(dy)}).liesIn(p.Halves)
			})
		}
	}
	if tested < 1000 {
		t.Errorf("only %d spots", tested)
	}
}

type growCase struct {
	name string
	p    impl.Region
	bx   int
	by   int
	low  int
	high int
	want impl.Region
}

func growCases() []growCase {
	triangle, box, unit := impl.Region{Halves: triangleAnd()}, boxOf(0, 0, 2, 2), boxOf(-1, -1, 1, 1)
	six := impl.Region{Halves: []impl.Half{{A: 1, C: 2}, {B: 1, C: 2}, {A: -1, B: 1, C: 2}, {A: -1, C: 2}, {B: -1, C: 2}, {A: 1, B: -1, C: 2}}}
	return []growCase{
		{"to both sides", box, 1, 0, -1, 3, boxOf(-3, 0, 3, 2)},
		{"up and down", box, 0, 1, -1, 3, boxOf(0, -3, 2, 3)},
		{"the other way", box, -1, 0, -1, 3, boxOf(-1, 0, 5, 2)},
		{"down and up", box, 0, -1, -1, 3, boxOf(0, -1, 2, 5)},
		{"farther", box, 3, 0, -1, 2, boxOf(-6, 0, 5, 2)},
		{"inputs above 0", box, 1, 0, 1, 3, boxOf(-3, 0, 1, 2)},
		{"inputs below 0", box, 1, 0, -3, -1, boxOf(1, 0, 5, 2)},
		{"aslant", box, 1, 1, 0, 2, six},
		{"aslant with a common divisor", box, 2, 2, 0, 1, six},
		{"aslant the other way", box, -1, -1, -2, 0, six},
		{"aslant the other way with a common divisor", box, -2, -2, -1, 0, six},
		{"steeply", box, 2, -4, 0, 1, impl.Region{Halves: []impl.Half{{A: 1, C: 2}, {A: 2, B: 1, C: 6}, {B: 1, C: 6}, {A: -1, C: 2}, {A: -2, B: -1}, {B: -1}}}},
		{"along an edge", triangle, 1, -1, 0, 1, impl.Region{Halves: []impl.Half{{A: 1, B: 1, C: 4}, {A: -1, C: 1}, {A: -1, B: -1}, {B: -1}}}},
		{"fractions", fractions(), 1, 0, 0, 1, impl.Region{Halves: []impl.Half{{A: 2, C: 1}, {B: 3, C: 2}, {A: -7, B: -5, C: 8}, {B: -10, C: 9}}}},
		{"one input", box, 1, 1, 3, 3, boxOf(-3, -3, -1, -1)},
		{"one input below 0", triangle, 2, -1, -1, -1, regionOf(impl.Half{A: 1, B: 1, C: 5}, impl.Half{A: -1, C: -2}, impl.Half{B: -1, C: 1})},
		{"the input 0", triangle, 3, 7, 0, 0, triangle},
		{"nowhere", triangle, 0, 0, -5, 7, triangle},
		{"nowhere with one input", fractions(), 0, 0, 1000, 1000, fractions()},
		{"to both sides of the frame", unit, 100, 0, -1000, 1000, boxOf(-1000, -1, 1000, 1)},
		{"to the top and the bottom of the frame", unit, 0, -100, -1000, 1000, boxOf(-1, -1000, 1, 1000)},
		{"to two corners of the frame", unit, 100, 100, -1000, 1000,
			impl.Region{Halves: []impl.Half{{A: 1, C: 1000}, {B: 1, C: 1000}, {A: -1, B: 1, C: 2}, {A: -1, C: 1000}, {B: -1, C: 1000}, {A: 1, B: -1, C: 2}}}},
		{"across an edge of the frame", unit, -100, 0, 9, 10, boxOf(899, -1, 1000, 1)},
		{"the frame", impl.Region{Halves: frameList()}, 3, 1, -2, 5, impl.Region{Halves: frameList()}},
		{"the frame to the left", impl.Region{Halves: frameList()}, 3, 0, 2, 5, boxOf(-1000, -1000, 994, 1000)},
		{"a line left in the frame", boxOf(0, 0, 1, 1), -100, 0, 10, 20, impl.Region{}},
		{"a point left in the frame", boxOf(0, 0, 1, 1), -100, -100, 10, 10, impl.Region{}},
		{"nothing left in the frame", boxOf(0, 0, 1, 1), 100, 0, 20, 30, impl.Region{}},
		{"a void region", impl.Region{}, 1, 2, -1, 3, impl.Region{}},
		{"a void region nowhere", impl.Region{}, 0, 0, -1, 3, impl.Region{}},
	}
}

func checkGrow(t *testing.T, name string, p impl.Region, drive [2]int, inputs [2]int, want impl.Region, wantOk bool) {
	t.Helper()
	got, ok := impl.GrowAlong(p, drive[0], drive[1], inputs[0], inputs[1])
	checkRegion(t, "GrowAlong: "+name, []any{p, drive, inputs}, got, ok, want, wantOk)
}

func TestGrowAlong(t *testing.T) {
	for _, c := range growCases() {
		if !validRegionByBig(c.p) || !validRegionByBig(c.want) {
			t.Errorf("%s: not valid", c.name)
		}
		checkGrow(t, c.name, c.p, [2]int{c.bx, c.by}, [2]int{c.low, c.high}, c.want, true)
		// The same points, with the drive and the inputs turned round.
		checkGrow(t, "turned round: "+c.name, c.p, [2]int{-c.bx, -c.by}, [2]int{-c.high, -c.low}, c.want, true)
		// The cases also show that the calculation used for the sweeps is right.
		got, ok := growByBig(c.p, c.bx, c.by, c.low, c.high)
		checkRegion(t, "growByBig: "+c.name, c, got, ok, c.want, true)
	}
}

// The half plane with the direction a, b is the only one near the limits, and it is not needed in the frame.
func TestGrowAlongLimitsOfTops(t *testing.T) {
	const a, b = maxCoef, maxCoef - 1
	for _, x := range []int{-1, 1} {
		for _, y := range []int{-1, 1} {
			cut := func(c int) impl.Region { return regionOf(impl.Half{A: x * a, B: y * b, C: c}) }
			corner := regionOf(impl.Half{A: -x}, impl.Half{B: -y})
			out, in, one := [2]int{-x, -y}, [2]int{x, y}, [2]int{1000, 1000}
			checkGrow(t, "below the limit", cut(999), out, one, corner, true)
			checkGrow(t, "at the limit", cut(1000), out, one, corner, true)
			checkGrow(t, "beyond the limit", cut(1001), out, one, impl.Region{}, false)
			checkGrow(t, "above the lower limit", cut(-999), in, one, impl.Region{}, true)
			checkGrow(t, "at the lower limit", cut(-1000), in, one, impl.Region{}, true)
			checkGrow(t, "beyond the lower limit", cut(-1001), in, one, impl.Region{}, false)
			// The farther end of the range counts, whichever it is.
			checkGrow(t, "beyond the limit at the upper end", cut(1001), out, [2]int{-7, 1000}, impl.Region{}, false)
			checkGrow(t, "beyond the limit at the lower end", cut(1001), in, [2]int{-1000, 7}, impl.Region{}, false)
			checkGrow(t, "far beyond the limit", cut(7), [2]int{100 * x, 100 * y}, [2]int{-1000, 1000}, impl.Region{}, false)
		}
	}
}

// peak returns a box with a corner whose y has the denominator 25000 + n.
func peak(n int) impl.Region {
	return regionOf(boxAnd(-1, -1, 1, 1, impl.Half{A: 1, B: 25000, C: 1}, impl.Half{A: -1, B: n})...)
}

func turnedBack(p impl.Region) impl.Region {
	q, _ := pullByBig(p, []int{0, 1, -1, 0}, 1)
	return q
}

// The added half plane at the corner is the only one near the limits.
func TestGrowAlongLimitsOfCoefs(t *testing.T) {
	level, upright, range1 := [2]int{1, 0}, [2]int{0, 1}, [2]int{0, 1}
	edges := map[string]impl.Half{"top": {B: 50000, C: 1}, "bottom": {B: -50000, C: 1}}
	for _, drive := range [][2]int{level, {-1, 0}, {100, 0}, {-7, 0}} {
		for name, p := range map[string]impl.Region{"top": peak(25000), "bottom": mirrored(peak(25000))} {
			want, wantOk := growByBig(p, drive[0], drive[1], 0, 1)
			checkGrow(t, "at the limit", p, drive, range1, want, true)
			if !wantOk || !slices.Contains(want.Halves, edges[name]) {
				t.Errorf("%v grows to %v", p, want)
			}
		}
		for _, p := range []impl.Region{peak(25001), mirrored(peak(25001))} {
			checkGrow(t, "beyond the limit", p, drive, range1, impl.Region{}, false)
			// The half plane counts even if it is not needed.
			checkGrow(t, "beyond the limit by one input", p, drive, [2]int{1, 1}, impl.Region{}, false)
			checkGrow(t, "beyond the limit by no input", p, drive, [2]int{0, 0}, impl.Region{}, false)
			checkGrow(t, "beyond the limit with nothing left", p, [2]int{100, 0}, [2]int{1000, 1000}, impl.Region{}, false)
			checkGrow(t, "nowhere", p, [2]int{}, range1, p, true)
		}
	}
	for _, p := range []impl.Region{turnedBack(peak(25000)), mirrored(turnedBack(peak(25000)))} {
		want, wantOk := growByBig(p, 0, 1, 0, 1)
		checkGrow(t, "at the limit", p, upright, range1, want, true)
		if !wantOk || len(want.Halves) == 0 {
			t.Errorf("%v grows to %v", p, want)
		}
	}
	for _, p := range []impl.Region{turnedBack(peak(25001)), mirrored(turnedBack(peak(25001)))} {
		checkGrow(t, "beyond the limit", p, upright, range1, impl.Region{}, false)
	}
}

func TestGrowAlongNumberOfEdges(t *testing.T) {
	p := lattice(38, 1000, 3)
	want, wantOk := growByBig(p, 5, 7, 0, 1)
	checkGrow(t, "two edges more", p, [2]int{5, 7}, [2]int{0, 1}, want, wantOk)
	if !wantOk || len(want.Halves) != maxHalves {
		t.Errorf("%d edges", len(want.Halves))
	}
	// The frame cuts one corner off and adds one edge.
	checkGrow(t, "three edges more", p, [2]int{5, 7}, [2]int{-1, 0}, impl.Region{}, false)
	want, wantOk = growByBig(p, 5, 7, 0, 0)
	checkGrow(t, "no edge more", p, [2]int{5, 7}, [2]int{0, 0}, want, wantOk)
	if !wantOk || !slices.Equal(want.Halves, p.Halves) {
		t.Errorf("%v becomes %v", p, want)
	}
	// Both directions that are added are edges already, but the frame adds one all the same.
	want, wantOk = growByBig(p, 1, 0, -3, 0)
	checkGrow(t, "one edge more", p, [2]int{1, 0}, [2]int{-3, 0}, want, wantOk)
	if !wantOk || len(want.Halves) != 39 {
		t.Errorf("%d edges", len(want.Halves))
	}
	checkGrow(t, "nowhere", p, [2]int{}, [2]int{-3, 3}, p, true)
	for n := 39; n <= 40; n++ {
		for _, p := range []impl.Region{lattice(n, 500, 3), {Halves: roundHalves(n, 500, 0)}} {
			for _, drive := range [][2]int{{0, 0}, {1, 0}, {0, 1}, {5, 7}, {101, 0}} {
				checkGrow(t, "too many half planes", p, drive, [2]int{0, 1}, impl.Region{}, false)
				checkGrow(t, "too many half planes", p, drive, [2]int{0, 0}, impl.Region{}, false)
			}
		}
	}
}

// isGrowth says for which numbers GrowAlong of a region with few half planes may have a result.
func isGrowth(bx int, by int, low int, high int) bool {
	return within(bx, -maxDrive, maxDrive) && within(by, -maxDrive, maxDrive) && within(low, -maxInput, maxInput) && within(high, low, maxInput)
}

func TestGrowAlongFar(t *testing.T) {
	for _, p := range []impl.Region{{}, boxOf(0, 0, 2, 1), {Halves: frameList()}} {
		for _, first := range stepInts(maxDrive) {
			for _, second := range stepInts(maxInput) {
				for _, n := range [][4]int{
					{first, 1, second, maxInput}, {1, first, -maxInput, second}, {first, -3, -2, second}, {2, first, second, 3},
					{first, 0, second, second}, {0, first, second, second}, {first, first, second, 0}, {0, 0, second, first}, {0, 0, first, second},
				} {
					var want impl.Region
					wantOk := isGrowth(n[0], n[1], n[2], n[3])
					if wantOk {
						want, wantOk = growByBig(p, n[0], n[1], n[2], n[3])
					}
					checkGrow(t, "far", p, [2]int{n[0], n[1]}, [2]int{n[2], n[3]}, want, wantOk)
				}
			}
		}
	}
}

func TestGrowAlongVoidAndInvalid(t *testing.T) {
	bad := [][4]int{{101, 0, 0, 1}, {-101, 0, 0, 1}, {0, 101, 0, 1}, {0, -101, 0, 1}, {1, 1, -1001, 1}, {1, 1, 1001, 1001}, {1, 1, 0, 1001}, {1, 1, -1001, -1001},
		{1, 1, 1, 0}, {1, 1, 1000, -1000}, {0, 0, 1, 0}, {0, 0, -1001, 0}, {0, 0, 0, 1001}, {math.MinInt, 0, 0, 1}, {0, math.MaxInt, 0, 1}, {1, 1, math.MinInt, math.MaxInt}}
	for _, n := range bad {
		for _, p := range slices.Concat(voidRegions(), goodRegions()) {
			checkGrow(t, "not valid", p, [2]int{n[0], n[1]}, [2]int{n[2], n[3]}, impl.Region{}, false)
		}
	}
	for _, p := range voidRegions() {
		for _, n := range [][4]int{{0, 0, 0, 0}, {1, 0, -1, 1}, {100, -100, -1000, 1000}, {0, 0, 5, 5}} {
			checkGrow(t, "void", p, [2]int{n[0], n[1]}, [2]int{n[2], n[3]}, impl.Region{}, true)
		}
	}
	for _, p := range wrongRegions() {
		for _, n := range [][4]int{{0, 0, 0, 0}, {1, 0, -1, 1}, {1, 1, 0, 0}, {100, 100, -1000, 1000}, {101, 0, 0, 0}} {
			checkGrow(t, "not valid", p, [2]int{n[0], n[1]}, [2]int{n[2], n[3]}, impl.Region{}, false)
		}
	}
	checkGrow(t, "far too many", impl.Region{Halves: make([]impl.Half, 100000)}, [2]int{1, 0}, [2]int{0, 1}, impl.Region{}, false)
}

func TestGrowAlongSweep(t *testing.T) {
	source := rand.New(rand.NewPCG(7, 5))
	from := func(most int) int { return source.IntN(2*most+1) - most }
	refused, void, more := 0, 0, 0
	for _, p := range movable(25, 40) {
		for k := range 4 {
			bx, by, low := from(4), from(4), from(5)
			if k == 3 {
				bx, by, low = from(100), from(100), from(1000)
			}
			high := low + source.IntN(4)
			if high > maxInput {
				high = low
			}
			want, wantOk := growByBig(p, bx, by, low, high)
			checkGrow(t, "sweep", p, [2]int{bx, by}, [2]int{low, high}, want, wantOk)
			switch {
			case !wantOk:
				refused++
			case len(want.Halves) == 0:
				void++
			case len(want.Halves) > len(p.Halves):
				more++
			}
		}
	}
	if refused < 50 || void < 50 || more < 50 {
		t.Errorf("%d refused, %d void, %d with more edges", refused, void, more)
	}
}

// meetsOnWay says whether a point plus a fraction from low to high, times the drive, lies in all half planes.
func meetsOnWay(halves []impl.Half, s point, drive [2]int, low int, high int) bool {
	least, most := whole(low), whole(high)
	for _, h := range halves {
		slope := h.A*drive[0] + h.B*drive[1]
		rest := new(big.Rat).Sub(whole(h.C), s.along(h.A, h.B))
		if slope == 0 {
			if rest.Sign() < 0 {
				return false
			}
			continue
		}
		end := rest.Quo(rest, whole(slope))
		if slope > 0 && end.Cmp(most) < 0 {
			most = end
		} else if slope < 0 && end.Cmp(least) > 0 {
			least = end
		}
	}
	return least.Cmp(most) <= 0
}

func TestGrowAlongHasItsPoints(t *testing.T) {
	tested := 0
	for _, p := range movable(26, 10) {
		for _, n := range [][4]int{{1, 0, -1, 3}, {2, -3, 0, 2}, {-1, 4, 2, 2}, {50, 70, -2, 1}, {0, -100, -9, 10}, {6, -4, -1, 1}} {
			got, ok := impl.GrowAlong(p, n[0], n[1], n[2], n[3])
			if !ok {
				continue
			}
			tested += checkPoints(t, "GrowAlong", []any{p, n}, got, func(s point) bool {
				return meetsOnWay(p.Halves, s, [2]int{n[0], n[1]}, n[2], n[3])
			})
		}
	}
	if tested < 1000 {
		t.Errorf("only %d spots", tested)
	}
}

type pullCase struct {
	name string
	p    impl.Region
	m    []int
	q    int
	want impl.Region
}

func pullCases() []pullCase {
	triangle, frame, box := impl.Region{Halves: triangleAnd()}, impl.Region{Halves: frameList()}, boxOf(0, 0, 2, 2)
	return []pullCase{
		{"a box", box, []int{1, 0, 0, 2}, 1, boxOf(0, 0, 2, 1)},
		{"the same", triangle, []int{1, 0, 0, 1}, 1, triangle},
		{"the same by 2", triangle, []int{2, 0, 0, 2}, 2, triangle},
		{"the same by 20", fractions(), []int{20, 0, 0, 20}, 20, fractions()},
		{"twice as large", triangle, []int{1, 0, 0, 1}, 2, regionOf(impl.Half{A: 1, B: 1, C: 8}, impl.Half{A: -1}, impl.Half{B: -1})},
		{"half as large", fractions(), []int{2, 0, 0, 2}, 1, impl.Region{Halves: []impl.Half{{A: 4, C: 1}, {B: 3, C: 1}, {A: -14, B: -10, C: 1}}}},
		{"coordinates exchanged", boxOf(0, 1, 2, 3), []int{0, 1, 1, 0}, 1, boxOf(1, 0, 3, 2)},
		{"turned", triangle, []int{0, 1, -1, 0}, 1, impl.Region{Halves: []impl.Half{{A: 1}, {A: -1, B: 1, C: 4}, {B: -1}}}},
		{"turned back", triangle, []int{0, -1, 1, 0}, 1, impl.Region{Halves: []impl.Half{{B: 1}, {A: -1}, {A: 1, B: -1, C: 4}}}},
		{"mirrored", triangle, []int{-1, 0, 0, -1}, 1, impl.Region{Halves: []impl.Half{{A: 1}, {B: 1}, {A: -1, B: -1, C: 4}}}},
		{"mirrored to the left", boxOf(1, 2, 3, 5), []int{-1, 0, 0, 1}, 1, boxOf(-3, 2, -1, 5)},
		{"aslant along x", box, []int{1, 1, 0, 1}, 1, impl.Region{Halves: []impl.Half{{A: 1, B: 1, C: 2}, {B: 1, C: 2}, {A: -1, B: -1}, {B: -1}}}},
		{"aslant along y", box, []int{1, 0, 1, 1}, 1, impl.Region{Halves: []impl.Half{{A: 1, C: 2}, {A: 1, B: 1, C: 2}, {A: -1}, {A: -1, B: -1}}}},
		{"four different numbers", boxOf(-1, -2, 3, 4), []int{2, 3, -1, 5}, 7, impl.Region{Halves: []impl.Half{{A: 2, B: 3, C: 21}, {A: -1, B: 5, C: 28}, {A: -2, B: -3, C: 7}, {A: 1, B: -5, C: 14}}}},
		{"much larger", boxOf(-1, -1, 1, 1), []int{1, 0, 0, 1}, 20, boxOf(-20, -20, 20, 20)},
		{"much smaller", frame, []int{20, 0, 0, 20}, 1, boxOf(-50, -50, 50, 50)},
		{"to a diamond", frame, []int{20, 20, -20, 20}, 1, impl.Region{Halves: diamond(50)}},
		{"out of the frame on all sides", frame, []int{1, 0, 0, -1}, 20, frame},
		{"out of the frame on one side", boxOf(499, 0, 600, 10), []int{1, 0, 0, 1}, 2, boxOf(998, 0, 1000, 20)},
		{"a line left in the frame", boxOf(500, 0, 600, 10), []int{1, 0, 0, 1}, 2, impl.Region{}},
		{"a point left in the frame", boxOf(500, 500, 600, 600), []int{1, 0, 0, 1}, 2, impl.Region{}},
		{"nothing left in the frame", boxOf(900, 0, 1000, 1000), []int{1, 0, 0, 1}, 2, impl.Region{}},
		{"across the frame by 20", boxOf(900, 0, 1000, 1000), []int{-20, 0, 0, 20}, 20, boxOf(-1000, 0, -900, 1000)},
		{"a void region", impl.Region{}, []int{1, 2, 3, 4}, 5, impl.Region{}},
	}
}

func checkPull(t *testing.T, name string, p impl.Region, m []int, q int, want impl.Region, wantOk bool) {
	t.Helper()
	got, ok := impl.PullBack(p, m, q)
	checkRegion(t, "PullBack: "+name, []any{p, m, q}, got, ok, want, wantOk)
}

func TestPullBack(t *testing.T) {
	for _, c := range pullCases() {
		if !validRegionByBig(c.p) || !validRegionByBig(c.want) {
			t.Errorf("%s: not valid", c.name)
		}
		checkPull(t, c.name, c.p, c.m, c.q, c.want, true)
		// The cases also show that the calculation used for the sweeps is right.
		got, ok := pullByBig(c.p, c.m, c.q)
		checkRegion(t, "pullByBig: "+c.name, c, got, ok, c.want, true)
	}
}

func TestPullBackLimitsOfHalves(t *testing.T) {
	same, times20 := []int{1, 0, 0, 1}, []int{20, 0, 0, 20}
	frame := impl.Region{Halves: frameList()}
	cut := func(a int, b int, c int) impl.Region { return regionOf(impl.Half{A: a, B: b, C: c}) }
	checkPull(t, "C below the limit", cut(5001, 1, 4999999), same, 20, frame, true)
	checkPull(t, "C at the limit", cut(5001, 1, 5000000), same, 20, frame, true)
	checkPull(t, "C beyond the limit", cut(5001, 1, 5000001), same, 20, impl.Region{}, false)
	checkPull(t, "C at the lower limit", cut(5001, 1, -5000000), same, 20, impl.Region{}, true)
	checkPull(t, "C beyond the lower limit", cut(5001, 1, -5000001), same, 20, impl.Region{}, false)
	checkPull(t, "C beyond the limit but for a common divisor", cut(5001, 1, 5000001), times20, 20, cut(5001, 1, 5000001), true)
	// The coefficients of the half plane are multiplied by 20.
	for _, sign := range []int{-1, 1} {
		for _, n := range []int{2500, 2501} {
			for _, p := range []impl.Region{cut(sign*n, 1, 3), cut(1, sign*n, 3)} {
				want, wantOk := pullByBig(p, times20, 1)
				checkPull(t, "A or B at and beyond the limit", p, times20, 1, want, wantOk)
				if wantOk != (n == 2500) {
					t.Errorf("%v becomes %v", p, want)
				}
				checkPull(t, "A or B beyond the limit but for a common divisor", p, times20, 20, p, true)
			}
		}
	}
	checkPull(t, "A and B as sums", cut(maxCoef, maxCoef-1, 7), []int{1, 1, 1, 2}, 1, impl.Region{}, false)
	checkPull(t, "A and B as differences", cut(maxCoef, maxCoef-1, 7), []int{1, 1, -1, 0}, 1,
		regionOf(impl.Half{A: 1, B: maxCoef, C: 7}, impl.Half{A: -1, B: -1, C: 1000}), true)
}

func TestPullBackNumberOfEdges(t *testing.T) {
	for n := 38; n <= 40; n++ {
		p := lattice(n, 501, 0)
		want, wantOk := pullByBig(p, []int{1, 0, 0, 1}, 2)
		checkPull(t, "across the frame", p, []int{1, 0, 0, 1}, 2, want, wantOk)
		// The frame cuts one corner off and adds one edge.
		if wantOk != (n < maxHalves) || wantOk && len(want.Halves) != n+1 {
			t.Errorf("%d edges become %d", n, len(want.Halves))
		}
		for _, m := range [][]int{{1, 0, 0, 1}, {-1, 0, 0, 1}, {0, 1, 1, 0}, {0, -1, 1, 0}, {2, 1, 1, 1}} {
			want, wantOk := pullByBig(lattice(n, 500, 0), m, 1)
			checkPull(t, "within the frame", lattice(n, 500, 0), m, 1, want, true)
			if !wantOk || len(want.Halves) < n && m[0] < 2 {
				t.Errorf("%d edges become %d", n, len(want.Halves))
			}
		}
	}
}

// wrongMaps returns lists that are not valid as maps, whatever the divisor is.
func wrongMaps() [][]int {
	list := [][]int{nil, {}, {1}, {1, 0}, {1, 0, 0}, {1, 0, 0, 1, 0}, {1, 0, 0, 1, 1}, {1, 0, 0, 1, 1, 0, 0, 1}, make([]int, 100000)}
	for at := range 4 {
		for _, n := range []int{math.MinInt, math.MinInt + 1, -1 << 32, -maxMapPart - 1, maxMapPart + 1, 1 << 32, math.MaxInt - 1, math.MaxInt} {
			m := []int{3, 1, 2, 5}
			m[at] = n
			list = append(list, m)
		}
	}
	return append(list, []int{math.MinInt, math.MinInt, math.MinInt, math.MinInt}, []int{math.MaxInt, math.MinInt, math.MinInt, math.MaxInt})
}

// flatMaps have the determinant 0.
func flatMaps() [][]int {
	return [][]int{{0, 0, 0, 0}, {1, 1, 1, 1}, {1, 2, 2, 4}, {-3, 6, 2, -4}, {1, 0, 0, 0}, {0, 0, 0, 1}, {0, 1, 0, 0}, {0, 0, 7, 0}, {1, 1, 0, 0}, {0, 3, 0, -5}, {20, 20, -20, -20}, {20, -20, 20, -20}}
}

func TestPullBackInvalid(t *testing.T) {
	list := slices.Concat(voidRegions(), []impl.Region{{Halves: triangleAnd()}, {Halves: frameList()}, fractions(), lattice(40, 300, 0)})
	for _, p := range list {
		for _, m := range slices.Concat(wrongMaps(), flatMaps()) {
			checkPull(t, "map not valid", p, m, 1, impl.Region{}, false)
			checkPull(t, "map not valid", p, m, 20, impl.Region{}, false)
		}
		for _, q := range stepInts(maxMapPart) {
			if !within(q, 1, maxMapPart) {
				checkPull(t, "divisor not valid", p, []int{1, 0, 0, 1}, q, impl.Region{}, false)
			}
		}
	}
	for _, p := range wrongRegions() {
		for _, m := range [][]int{{1, 0, 0, 1}, {2, 0, 0, 2}, {20, -20, 20, 20}, {1, 1, 1, 1}, nil} {
			checkPull(t, "not valid", p, m, 1, impl.Region{}, false)
			checkPull(t, "not valid", p, m, 2, impl.Region{}, false)
		}
	}
	for _, p := range voidRegions() {
		checkPull(t, "void", p, []int{20, -20, 20, 20}, 20, impl.Region{}, true)
		checkPull(t, "void", p, []int{1, 0, 0, 1}, 1, impl.Region{}, true)
	}
	checkPull(t, "far too many", impl.Region{Halves: make([]impl.Half, 100000)}, []int{1, 0, 0, 1}, 1, impl.Region{}, false)
}

func TestPullBackLimitsOfMaps(t *testing.T) {
	for _, p := range []impl.Region{boxOf(-3, -2, 5, 7), {Halves: triangleAnd()}} {
		for at := range 4 {
			for _, n := range []int{-20, -19, -1, 0, 1, 19, 20} {
				for _, q := range []int{1, 2, 19, 20} {
					m := []int{7, 2, 3, -5}
					m[at] = n
					want, wantOk := pullByBig(p, m, q)
					checkPull(t, "map at the limits", p, m, q, want, wantOk)
					if !wantOk || len(want.Halves) == 0 {
						t.Errorf("%v and %v, %d: %v", p, m, q, want)
					}
				}
			}
		}
	}
}

// someMap returns a map, mostly with small numbers, whose determinant is not 0.
func someMap(source *rand.Rand) ([]int, int) {
	most := []int{2, 5, maxMapPart}[source.IntN(3)]
	for {
		var m []int
		for range 4 {
			m = append(m, source.IntN(2*most+1)-most)
		}
		if m[0]*m[3] != m[1]*m[2] {
			return m, 1 + source.IntN(most)
		}
	}
}

func TestPullBackSweep(t *testing.T) {
	source := rand.New(rand.NewPCG(7, 6))
	refused, void, cut, turned := 0, 0, 0, 0
	for _, p := range movable(27, 40) {
		for range 4 {
			m, q := someMap(source)
			want, wantOk := pullByBig(p, m, q)
			checkPull(t, "sweep", p, m, q, want, wantOk)
			switch {
			case !wantOk:
				refused++
			case len(want.Halves) == 0:
				void++
			case len(want.Halves) != len(p.Halves):
				cut++
			case m[0]*m[3] < m[1]*m[2]:
				turned++
			}
		}
	}
	if refused < 50 || void < 10 || cut < 50 || turned < 50 {
		t.Errorf("%d refused, %d void, %d cut, %d turned", refused, void, cut, turned)
	}
}

func TestPullBackHasItsPoints(t *testing.T) {
	source := rand.New(rand.NewPCG(7, 7))
	tested := 0
	for _, p := range movable(28, 10) {
		for range 3 {
			m, q := someMap(source)
			got, ok := impl.PullBack(p, m, q)
			if !ok {
				continue
			}
			tested += checkPoints(t, "PullBack", []any{p, m, q}, got, func(s point) bool {
				return mapByBig(s, m, q).liesIn(p.Halves)
			})
			for _, s := range spotsNear(impl.Region{Halves: frameList()}) {
				if image, ok := impl.MapSpot(s, m, q); ok && len(got.Halves) > 0 && impl.HasSpot(got, s) != impl.HasSpot(p, image) {
					t.Errorf("PullBack of %v, %v, %d = %v, but %v is mapped to %v", p, m, q, got, s, image)
				}
			}
		}
	}
	if tested < 1000 {
		t.Errorf("only %d spots", tested)
	}
}

type mapCase struct {
	name string
	s    impl.Spot
	m    []int
	q    int
	want impl.Spot
}

func mapCases() []mapCase {
	same, times20 := []int{1, 0, 0, 1}, []int{20, 0, 0, 20}
	return []mapCase{
		{"a whole spot", impl.Spot{X: 1, Y: 1, D: 1}, []int{1, 0, 0, 2}, 2, impl.Spot{X: 1, Y: 2, D: 2}},
		{"four different numbers", impl.Spot{X: 1, Y: 2, D: 1}, []int{1, 3, -2, 4}, 5, impl.Spot{X: 7, Y: 6, D: 5}},
		{"a fraction", impl.Spot{X: 1, Y: 2, D: 3}, []int{2, 5, 1, 1}, 7, impl.Spot{X: 4, Y: 1, D: 7}},
		{"a fraction that becomes whole", impl.Spot{X: 1, Y: 2, D: 3}, []int{3, 0, 0, 3}, 1, impl.Spot{X: 1, Y: 2, D: 1}},
		{"the same", impl.Spot{X: -3, Y: 7, D: 5}, same, 1, impl.Spot{X: -3, Y: 7, D: 5}},
		{"the same by 20", impl.Spot{X: -3, Y: 7, D: 5}, times20, 20, impl.Spot{X: -3, Y: 7, D: 5}},
		{"coordinates exchanged", impl.Spot{X: -3, Y: 7, D: 5}, []int{0, 1, 1, 0}, 1, impl.Spot{X: 7, Y: -3, D: 5}},
		{"turned", impl.Spot{X: -3, Y: 7, D: 5}, []int{0, -1, 1, 0}, 1, impl.Spot{X: -7, Y: -3, D: 5}},
		{"to a line", impl.Spot{X: 2, Y: 5, D: 1}, []int{1, 1, 1, 1}, 1, impl.Spot{X: 7, Y: 7, D: 1}},
		{"to a line from a fraction", impl.Spot{X: 2, Y: 5, D: 3}, []int{2, 4, -1, -2}, 6, impl.Spot{X: 4, Y: -2, D: 3}},
		{"to the origin", impl.Spot{X: 999, Y: -7, D: 13}, []int{0, 0, 0, 0}, 20, impl.Spot{D: 1}},
		{"the origin", impl.Spot{D: 1}, []int{20, 3, -5, 20}, 20, impl.Spot{D: 1}},
		{"to the corner of the frame", impl.Spot{X: 50, Y: -50, D: 1}, times20, 1, impl.Spot{X: 1000, Y: -1000, D: 1}},
		{"to the edge of the frame by a sum", impl.Spot{X: 1999, Y: 1, D: 2}, []int{1, 1, 0, 1}, 1, impl.Spot{X: 2000, Y: 1, D: 2}},
		{"to the lower edge of the frame by a difference", impl.Spot{X: 1, Y: -1999, D: 2}, []int{1, 0, -1, 1}, 1, impl.Spot{X: 1, Y: -2000, D: 2}},
		{"from the corner of the frame", impl.Spot{X: 1000, Y: 1000, D: 1}, []int{20, -20, 1, 19}, 20, impl.Spot{Y: 1000, D: 1}},
		{"to the greatest D", impl.Spot{X: 1, Y: 1, D: maxDen / 20}, same, 20, impl.Spot{X: 1, Y: 1, D: maxDen}},
		{"to the greatest D far away", impl.Spot{X: maxDen*50 - 1, Y: 1 - maxDen*50, D: maxDen / 20}, same, 20, impl.Spot{X: maxDen*50 - 1, Y: 1 - maxDen*50, D: maxDen}},
		{"from the greatest D", impl.Spot{X: 1, Y: 3, D: maxDen}, []int{20, 0, 0, 0}, 20, impl.Spot{X: 1, D: maxDen}},
		{"from the greatest D to a smaller one", impl.Spot{X: 1, Y: 3, D: maxDen}, times20, 1, impl.Spot{X: 1, Y: 3, D: maxDen / 20}},
		{"from a great D with a common divisor", impl.Spot{X: 20, Y: 40, D: maxDen - 1}, same, 20, impl.Spot{X: 1, Y: 2, D: maxDen - 1}},
	}
}

// outCases have no valid spot as their image.
func outCases() []mapCase {
	same, times20 := []int{1, 0, 0, 1}, []int{20, 0, 0, 20}
	return []mapCase{
		{"x beyond the frame", impl.Spot{X: 51, D: 1}, times20, 1, impl.Spot{}},
		{"x below the frame", impl.Spot{X: -51, D: 1}, times20, 1, impl.Spot{}},
		{"y beyond the frame", impl.Spot{Y: 51, D: 1}, times20, 1, impl.Spot{}},
		{"y below the frame", impl.Spot{Y: -51, D: 1}, times20, 1, impl.Spot{}},
		{"x just beyond the frame", impl.Spot{X: 1000, Y: 1, D: 1}, []int{1, 1, 0, 1}, 1, impl.Spot{}},
		{"x beyond the frame by the least step", impl.Spot{X: 1000*maxDen - 1, Y: 2, D: maxDen}, []int{1, 1, 0, 1}, 1, impl.Spot{}},
		{"y just below the frame", impl.Spot{X: 1, Y: -1000, D: 1}, []int{1, 0, -1, 1}, 1, impl.Spot{}},
		{"both far beyond the frame", impl.Spot{X: 1000, Y: 1000, D: 1}, []int{20, 20, 20, 20}, 1, impl.Spot{}},
		{"x beyond the frame on a line", impl.Spot{X: 999, Y: 2, D: 1}, []int{1, 1, 0, 0}, 1, impl.Spot{}},
		{"D beyond the limit", impl.Spot{X: 1, Y: 1, D: maxDen/20 + 1}, same, 20, impl.Spot{}},
		{"D beyond the limit by one coordinate", impl.Spot{X: 20, Y: 41, D: maxDen - 1}, same, 20, impl.Spot{}},
		{"D far beyond the limit", impl.Spot{X: 1, Y: 3, D: maxDen}, []int{19, 7, 3, 1}, 20, impl.Spot{}},
	}
}

func checkMap(t *testing.T, name string, s impl.Spot, m []int, q int, want impl.Spot, wantOk bool) {
	t.Helper()
	got, ok := impl.MapSpot(s, m, q)
	checkSpot(t, "MapSpot: "+name, []any{s, m, q}, got, ok, want, wantOk)
}

func TestMapSpot(t *testing.T) {
	for _, c := range mapCases() {
		checkMap(t, c.name, c.s, c.m, c.q, c.want, true)
	}
	for _, c := range outCases() {
		checkMap(t, c.name, c.s, c.m, c.q, impl.Spot{}, false)
	}
	for _, c := range slices.Concat(mapCases(), outCases()) {
		if !validSpotByBig(c.s) {
			t.Errorf("%s: not valid", c.name)
		}
		// The cases also show that the calculation used for the sweeps is right.
		image := mapByBig(pointOf(c.s), c.m, c.q)
		got, ok := spotOfRats(image.x, image.y)
		checkSpot(t, "mapByBig: "+c.name, c, got, ok, c.want, c.want != impl.Spot{})
	}
}

func TestMapSpotSweep(t *testing.T) {
	source := rand.New(rand.NewPCG(7, 8))
	flat := flatMaps()
	found, none := 0, 0
	for _, s := range validSpots() {
		maps := [][]int{{20, 20, 20, 20}, {-20, -20, 20, 20}}
		for range 4 {
			m, _ := someMap(source)
			maps = append(maps, m, flat[source.IntN(len(flat))])
		}
		for _, m := range maps {
			for _, q := range []int{1, 2, 3 + source.IntN(16), 19, 20} {
				image := mapByBig(pointOf(s), m, q)
				want, wantOk := spotOfRats(image.x, image.y)
				checkMap(t, "sweep", s, m, q, want, wantOk)
				if wantOk {
					found++
				} else {
					none++
				}
			}
		}
	}
	if found < 1000 || none < 1000 {
		t.Errorf("%d spots, %d without one", found, none)
	}
}

func TestMapSpotInvalid(t *testing.T) {
	for _, s := range invalidSpots() {
		for _, m := range append(flatMaps(), []int{1, 0, 0, 1}, []int{20, 0, 0, 20}) {
			checkMap(t, "spot not valid", s, m, 1, impl.Spot{}, false)
			checkMap(t, "spot not valid", s, m, 20, impl.Spot{}, false)
		}
		checkMap(t, "nothing valid", s, nil, 0, impl.Spot{}, false)
	}
	for _, s := range []impl.Spot{{D: 1}, {X: 1, Y: 2, D: 3}, {X: 1000, Y: -1000, D: 1}, {X: 1, D: maxDen}} {
		for _, m := range wrongMaps() {
			checkMap(t, "map not valid", s, m, 1, impl.Spot{}, false)
			checkMap(t, "map not valid", s, m, 20, impl.Spot{}, false)
		}
		for _, q := range stepInts(maxMapPart) {
			if !within(q, 1, maxMapPart) {
				checkMap(t, "divisor not valid", s, []int{1, 0, 0, 1}, q, impl.Spot{}, false)
				checkMap(t, "divisor not valid", s, []int{0, 0, 0, 0}, q, impl.Spot{}, false)
			}
		}
	}
	for at := range 4 {
		for _, n := range []int{-maxMapPart, maxMapPart} {
			m := []int{1, 2, 3, 4}
			m[at] = n
			if _, ok := impl.MapSpot(impl.Spot{X: 1, Y: 1, D: 1}, m, 1); !ok {
				t.Errorf("%v is not a map", m)
			}
		}
	}
}

func checkMirror(t *testing.T, p impl.Region, want impl.Region, wantOk bool) {
	t.Helper()
	got, ok := impl.MirrorRegion(p)
	checkRegion(t, "MirrorRegion", p, got, ok, want, wantOk)
}

func TestMirrorRegion(t *testing.T) {
	cases := [][2]impl.Region{
		{{Halves: triangleAnd()}, {Halves: []impl.Half{{A: 1}, {B: 1}, {A: -1, B: -1, C: 4}}}},
		{{Halves: frameList()}, {Halves: frameList()}},
		{{Halves: diamond(3)}, {Halves: diamond(3)}},
		{boxOf(-1, 0, 2, 5), boxOf(-2, -5, 1, 0)},
		{boxOf(999, -1000, 1000, -999), boxOf(-1000, 999, -999, 1000)},
		{fractions(), {Halves: []impl.Half{{A: 7, B: 5, C: 1}, {A: -2, C: 1}, {B: -3, C: 2}}}},
		{regionOf(impl.Half{A: 1, B: 2, C: 7}), {Halves: []impl.Half{{A: 1, C: 1000}, {B: 1, C: 1000}, {A: -1, C: 1000}, {A: -1, B: -2, C: 7}}}},
		{{}, {}},
	}
	for _, c := range cases {
		if !validRegionByBig(c[0]) || !validRegionByBig(c[1]) {
			t.Errorf("%v: not valid", c)
		}
		checkMirror(t, c[0], c[1], true)
		checkMirror(t, c[1], c[0], true)
		got, ok := mirrorByBig(c[0])
		checkRegion(t, "mirrorByBig", c[0], got, ok, c[1], true)
	}
	for _, p := range voidRegions() {
		checkMirror(t, p, impl.Region{}, true)
	}
	for _, p := range append(wrongRegions(), impl.Region{Halves: make([]impl.Half, 100000)}) {
		checkMirror(t, p, impl.Region{}, false)
	}
}

func TestMirrorRegionTwice(t *testing.T) {
	for _, p := range movable(29, 20) {
		want, wantOk := mirrorByBig(p)
		checkMirror(t, p, want, wantOk)
		checkMirror(t, want, p, true)
		once, _ := impl.MirrorRegion(p)
		if len(once.Halves) != len(p.Halves) || !validRegionByBig(once) {
			t.Errorf("%v is mirrored to %v", p, once)
		}
		checkPoints(t, "MirrorRegion", p, once, func(s point) bool {
			return point{new(big.Rat).Neg(s.x), new(big.Rat).Neg(s.y)}.liesIn(p.Halves)
		})
		// A region is also mirrored by a map.
		checkPull(t, "mirrored", p, []int{-1, 0, 0, -1}, 1, want, true)
	}
}

// There and back again, as long as nothing leads out of the frame.
func TestMovesBackAndForth(t *testing.T) {
	for _, p := range []impl.Region{{Halves: triangleAnd()}, fractions(), {Halves: diamond(7)}, lattice(38, 300, 5), lattice(40, 300, 5)} {
		there, _ := impl.ShiftRegion(p, 300, -200)
		checkShift(t, "back", there, -300, 200, p, true)
		turned, _ := impl.PullBack(p, []int{0, 1, -1, 0}, 1)
		checkPull(t, "back", turned, []int{0, -1, 1, 0}, 1, p, true)
		larger, _ := impl.PullBack(p, []int{1, 0, 0, 1}, 2)
		checkPull(t, "back", larger, []int{2, 0, 0, 2}, 1, p, true)
	}
	// What is grown by all inputs is eroded to what it was, since the way lies in the small box.
	for _, p := range []impl.Region{boxOf(-3, 1, 5, 2), boxOf(-900, -900, 900, 900)} {
		grown, _ := impl.GrowAlong(p, 1, 0, -2, 2)
		grown, _ = impl.GrowAlong(grown, 0, 1, -3, 3)
		checkErode(t, "back", grown, boxOf(-2, -3, 2, 3), p, true)
	}
}

// moves are all functions that take a region to another one.
func moves() map[string]func(p impl.Region) (impl.Region, bool) {
	return map[string]func(p impl.Region) (impl.Region, bool){
		"shift":           func(p impl.Region) (impl.Region, bool) { return impl.ShiftRegion(p, 3, -5) },
		"shift by 0":      func(p impl.Region) (impl.Region, bool) { return impl.ShiftRegion(p, 0, 0) },
		"erode":           func(p impl.Region) (impl.Region, bool) { return impl.ErodeRegion(p, boxOf(-1, 0, 1, 1)) },
		"erode by itself": func(p impl.Region) (impl.Region, bool) { return impl.ErodeRegion(p, p) },
		"erode a box":     func(p impl.Region) (impl.Region, bool) { return impl.ErodeRegion(boxOf(-990, -990, 990, 990), p) },
		"grow":            func(p impl.Region) (impl.Region, bool) { return impl.GrowAlong(p, 2, -3, -1, 4) },
		"grow by 0":       func(p impl.Region) (impl.Region, bool) { return impl.GrowAlong(p, 2, -3, 0, 0) },
		"grow nowhere":    func(p impl.Region) (impl.Region, bool) { return impl.GrowAlong(p, 0, 0, -1, 4) },
		"pull back":       func(p impl.Region) (impl.Region, bool) { return impl.PullBack(p, []int{1, 2, -3, 1}, 2) },
		"pull back as is": func(p impl.Region) (impl.Region, bool) { return impl.PullBack(p, []int{1, 0, 0, 1}, 1) },
		"mirror":          impl.MirrorRegion,
	}
}

func TestMovesLeaveTheirArguments(t *testing.T) {
	for name, move := range moves() {
		for _, p := range slices.Concat(voidRegions(), movable(30, 3), wrongRegions()) {
			arg := withSpare(p.Halves)
			got, ok := move(impl.Region{Halves: arg})
			if !isUntouched(arg, p.Halves) {
				t.Errorf("%s: %v is changed", name, p)
			}
			// The spare capacity behind an argument does not count, whatever it holds.
			want, wantOk := move(impl.Region{Halves: slices.Clip(slices.Clone(p.Halves))})
			checkRegion(t, name, p, got, ok, want, wantOk)
		}
	}
}

func TestMovesAreNewEachTime(t *testing.T) {
	for name, move := range moves() {
		for _, p := range slices.Concat(voidRegions(), movable(31, 3)) {
			arg := impl.Region{Halves: withSpare(p.Halves)}
			first, _ := move(arg)
			second, _ := move(arg)
			want := slices.Clone(first.Halves)
			scribble(first.Halves)
			if !isUntouched(arg.Halves, p.Halves) || !slices.Equal(second.Halves, want) {
				t.Errorf("%s: a result for %v shares memory", name, p)
			}
			scribble(arg.Halves)
			if !slices.Equal(second.Halves, want) {
				t.Errorf("%s: a result for %v shares memory with its argument", name, p)
			}
		}
	}
}

func TestMapsStayAsTheyAre(t *testing.T) {
	for _, m := range slices.Concat(flatMaps(), wrongMaps(), [][]int{{1, 2, 3, 4}, {0, 1, -1, 0}, {20, -20, 20, 20}}) {
		arg := append(slices.Clone(m), 91, 92, 93, 94, 95)
		same := slices.Clone(arg)
		list := arg[:len(m)]
		got, ok := impl.PullBack(impl.Region{Halves: triangleAnd()}, list, 3)
		want, wantOk := impl.PullBack(impl.Region{Halves: triangleAnd()}, slices.Clip(slices.Clone(m)), 3)
		checkRegion(t, "PullBack", m, got, ok, want, wantOk)
		spot, found := impl.MapSpot(impl.Spot{X: 1, Y: 2, D: 3}, list, 3)
		other, wantFound := impl.MapSpot(impl.Spot{X: 1, Y: 2, D: 3}, slices.Clip(slices.Clone(m)), 3)
		checkSpot(t, "MapSpot", m, spot, found, other, wantFound)
		if !slices.Equal(arg, same) {
			t.Errorf("%v becomes %v", same, arg)
		}
	}
}
