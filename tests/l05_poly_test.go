package tests

import (
	"math"
	"math/rand/v2"
	"slices"
	"testing"

	"loop.example/g00832/impl"
)

const maxHalves = 40

func frameList() []impl.Half {
	return []impl.Half{{A: 1, C: maxPlace}, {B: 1, C: maxPlace}, {A: -1, C: maxPlace}, {B: -1, C: maxPlace}}
}

// regionByBig calculates RegionFrom out of all crossings of all borders that lie in all half planes.
func regionByBig(halves []impl.Half) (impl.Region, bool) {
	all := frameList()
	for _, h := range halves {
		if !validHalfByBig(h) {
			return impl.Region{}, false
		}
		if !slices.Contains(all, h) {
			all = append(all, h)
		}
	}
	var edges []impl.Half
	spots := cornersByBig(all)
	for _, h := range all {
		on := 0
		for _, s := range spots {
			if sideByBig(h, s) == 0 {
				on++
			}
		}
		// A set without a point inside all half planes lies on the border of one of them.
		if on == len(spots) {
			edges = nil
			break
		}
		if on > 1 {
			edges = append(edges, h)
		}
	}
	if len(halves) > maxHalves || len(edges) > maxHalves {
		return impl.Region{}, false
	}
	slices.SortFunc(edges, compareAngles)
	return impl.Region{Halves: edges}, true
}

// cornersByBig returns the different crossings of two borders that lie in all half planes, in no special order.
func cornersByBig(all []impl.Half) []impl.Spot {
	var spots []impl.Spot
	for i, g := range all {
		for _, h := range all[:i] {
			s, ok := crossingByBig(g, h)
			if ok && !slices.Contains(spots, s) && liesInAll(all, s) {
				spots = append(spots, s)
			}
		}
	}
	return spots
}

// liesInAll is for valid arguments alone.
func liesInAll(halves []impl.Half, s impl.Spot) bool {
	for _, h := range halves {
		if sideByBig(h, s) > 0 {
			return false
		}
	}
	return true
}

// validRegionByBig relies on a region being valid exactly if it is its own region.
func validRegionByBig(p impl.Region) bool {
	q, ok := regionByBig(p.Halves)
	return len(p.Halves) == 0 || ok && slices.Equal(p.Halves, q.Halves)
}

// roundHalves returns n half planes with ascending angles that are all about radius away from the origin.
// Their directions are spread evenly over a full turn; start is that of the first one, as a part of the step.
func roundHalves(n int, radius float64, start float64) []impl.Half {
	var list []impl.Half
	for i := range n {
		angle := 2 * math.Pi * (float64(i) + start) / float64(n)
		a, b := math.Round(1000*math.Cos(angle)), math.Round(1000*math.Sin(angle))
		h, _ := halfByBig(int(a), int(b), int(math.Round(radius*math.Hypot(a, b))))
		list = append(list, h)
	}
	return list
}

// boxAnd returns the edges of a box, followed by more half planes.
func boxAnd(x0 int, y0 int, x1 int, y1 int, more ...impl.Half) []impl.Half {
	return append([]impl.Half{{A: 1, C: x1}, {B: 1, C: y1}, {A: -1, C: -x0}, {B: -1, C: -y0}}, more...)
}

// triangleAnd returns the edges of the triangle with the corners (0, 4), (0, 0) and (4, 0), followed by more half planes.
func triangleAnd(more ...impl.Half) []impl.Half {
	return append([]impl.Half{{A: 1, B: 1, C: 4}, {A: -1}, {B: -1}}, more...)
}

func checkRegion(t *testing.T, call string, args any, got impl.Region, ok bool, want impl.Region, wantOk bool) {
	t.Helper()
	if !slices.Equal(got.Halves, want.Halves) || ok != wantOk {
		t.Errorf("%s of %v = %v, %v, want %v, %v", call, args, got.Halves, ok, want.Halves, wantOk)
	}
}

func checkRegionFrom(t *testing.T, halves []impl.Half, want []impl.Half) {
	t.Helper()
	got, ok := impl.RegionFrom(halves)
	checkRegion(t, "RegionFrom", halves, got, ok, impl.Region{Halves: want}, true)
}

func checkNoRegion(t *testing.T, halves []impl.Half) {
	t.Helper()
	got, ok := impl.RegionFrom(halves)
	checkRegion(t, "RegionFrom", halves, got, ok, impl.Region{}, false)
}

func checkRegionByBig(t *testing.T, halves []impl.Half) impl.Region {
	t.Helper()
	want, wantOk := regionByBig(halves)
	got, ok := impl.RegionFrom(halves)
	checkRegion(t, "RegionFrom", halves, got, ok, want, wantOk)
	return want
}

// forOrders calls use with every order of a short list.
func forOrders(list []impl.Half, use func(order []impl.Half)) {
	var place func(done []impl.Half, rest []impl.Half)
	place = func(done []impl.Half, rest []impl.Half) {
		if len(rest) == 0 {
			use(done)
			return
		}
		for i, h := range rest {
			place(append(slices.Clone(done), h), slices.Delete(slices.Clone(rest), i, i+1))
		}
	}
	place(nil, list)
}

func shuffled(source *rand.Rand, list []impl.Half) []impl.Half {
	mixed := slices.Clone(list)
	source.Shuffle(len(mixed), func(i int, k int) { mixed[i], mixed[k] = mixed[k], mixed[i] })
	return mixed
}

func TestRegionLimits(t *testing.T) {
	if impl.MaxHalves != maxHalves {
		t.Errorf("MaxHalves is %d", impl.MaxHalves)
	}
}

func TestFrameHalves(t *testing.T) {
	first := impl.FrameHalves()
	if !slices.Equal(first, frameList()) {
		t.Errorf("FrameHalves() = %v", first)
	}
	scribble(first)
	if second := impl.FrameHalves(); !slices.Equal(second, frameList()) {
		t.Errorf("FrameHalves() = %v once an earlier result is changed", second)
	}
}

type fromCase struct {
	name   string
	halves []impl.Half
	want   []impl.Half
}

// fromFrameCases cut the frame alone, so that its edges and corners count.
func fromFrameCases() []fromCase {
	low := impl.Half{B: -1, C: maxPlace}
	left := impl.Half{A: -1, C: maxPlace}
	top := impl.Half{B: 1, C: maxPlace}
	right := impl.Half{A: 1, C: maxPlace}
	frame := frameList()
	slope := func(c int) impl.Half { return impl.Half{A: 1, B: 1, C: c} }
	return []fromCase{
		{"nil", nil, frame},
		{"no half plane", []impl.Half{}, frame},
		{"the frame", frame, frame},
		{"one upright", []impl.Half{{A: 1, C: 5}}, []impl.Half{{A: 1, C: 5}, top, left, low}},
		{"one upright on the left", []impl.Half{{A: -1, C: 5}}, []impl.Half{right, top, {A: -1, C: 5}, low}},
		{"one level", []impl.Half{{B: -3, C: 5}}, []impl.Half{right, top, left, {B: -3, C: 5}}},
		{"one sloping", []impl.Half{slope(4)}, []impl.Half{right, slope(4), top, left, low}},
		{"one sloping through two corners", []impl.Half{slope(0)}, []impl.Half{slope(0), left, low}},
		{"one sloping beside two corners", []impl.Half{slope(-1)}, []impl.Half{slope(-1), left, low}},
		{"one with the last angle", []impl.Half{{A: 2, B: -1}}, []impl.Half{top, left, low, {A: 2, B: -1}}},
		{"one that touches a corner", []impl.Half{slope(2 * maxPlace)}, frame},
		{"one that misses the frame", []impl.Half{slope(2*maxPlace + 1)}, frame},
		{"one far outside", []impl.Half{slope(maxTop)}, frame},
		{"one that cuts a corner", []impl.Half{slope(2*maxPlace - 1)}, []impl.Half{right, slope(2*maxPlace - 1), top, left, low}},
		{"one that leaves a corner", []impl.Half{slope(1 - 2*maxPlace)}, []impl.Half{slope(1 - 2*maxPlace), left, low}},
		{"one that leaves a point", []impl.Half{slope(-2 * maxPlace)}, nil},
		{"one that leaves nothing", []impl.Half{slope(-2*maxPlace - 1)}, nil},
		{"one far on the other side", []impl.Half{slope(-maxTop)}, nil},
		{"one along an edge", []impl.Half{right}, frame},
		{"one beyond an edge", []impl.Half{{A: 1, C: maxPlace + 1}}, frame},
		{"one half a step beyond an edge", []impl.Half{{A: 2, C: 2*maxPlace + 1}}, frame},
		{"one half a step within an edge", []impl.Half{{A: 2, C: 2*maxPlace - 1}}, []impl.Half{{A: 2, C: 2*maxPlace - 1}, top, left, low}},
		{"one that leaves a strip", []impl.Half{{A: 2, C: 1 - 2*maxPlace}}, []impl.Half{{A: 2, C: 1 - 2*maxPlace}, top, left, low}},
		{"one that leaves an edge", []impl.Half{{A: 1, C: -maxPlace}}, nil},
		{"one beyond the opposite edge", []impl.Half{{A: 1, C: -maxPlace - 1}}, nil},
		{"all edges turned round", []impl.Half{{A: 1, C: -maxPlace}, {B: 1, C: -maxPlace}, {A: -1, C: -maxPlace}, {B: -1, C: -maxPlace}}, nil},
		{"two", []impl.Half{{B: -1, C: -7}, {A: 1, C: 5}}, []impl.Half{{A: 1, C: 5}, top, left, {B: -1, C: -7}}},
		{"two that cross at a corner", []impl.Half{{A: 2, B: 1, C: 3 * maxPlace}, {A: 1, B: 2, C: 3 * maxPlace}}, frame},
		{"two that replace an edge", []impl.Half{{A: 2, B: 1, C: 2*maxPlace - 1}, {A: 2, B: -1, C: 2*maxPlace - 1}},
			[]impl.Half{{A: 2, B: 1, C: 2*maxPlace - 1}, top, left, low, {A: 2, B: -1, C: 2*maxPlace - 1}}},
		{"two that leave an edge", []impl.Half{{A: 2, B: 1, C: 2*maxPlace + 1}, {A: 2, B: -1, C: 2*maxPlace + 1}},
			[]impl.Half{right, {A: 2, B: 1, C: 2*maxPlace + 1}, top, left, low, {A: 2, B: -1, C: 2*maxPlace + 1}}},
		{"two that leave a point of an edge", []impl.Half{{A: 2, B: 1, C: 2 * maxPlace}, {A: 2, B: -1, C: 2 * maxPlace}},
			[]impl.Half{{A: 2, B: 1, C: 2 * maxPlace}, top, left, low, {A: 2, B: -1, C: 2 * maxPlace}}},
	}
}

// fromPlaneCases have few or no edges of the frame.
func fromPlaneCases() []fromCase {
	triangle := triangleAnd()
	lastEdge := []impl.Half{{A: 1, B: 1, C: 4}, {A: -1}, {B: -1}, {A: 3, B: -1, C: 9}}
	return []fromCase{
		{"three", []impl.Half{{B: -1}, {A: -1}, {A: 1, B: 1, C: 4}}, triangle},
		{"four", boxAnd(-1, 0, 2, 1), boxAnd(-1, 0, 2, 1)},
		{"four, the last one after all angles", triangleAnd(impl.Half{A: 3, B: -1, C: 9}), lastEdge},
		{"one that is not needed", triangleAnd(impl.Half{A: 1, C: 9}), triangle},
		{"one that touches the first corner", triangleAnd(impl.Half{A: 1, B: 2, C: 8}), triangle},
		{"one that touches the second corner", triangleAnd(impl.Half{A: -1, B: -1}), triangle},
		{"one that touches the last corner", triangleAnd(impl.Half{A: 1, C: 4}), triangle},
		{"one that misses the first corner", triangleAnd(impl.Half{A: 1, B: 2, C: 9}), triangle},
		{"one that cuts the first corner", triangleAnd(impl.Half{A: 1, B: 2, C: 7}), []impl.Half{{A: 1, B: 1, C: 4}, {A: 1, B: 2, C: 7}, {A: -1}, {B: -1}}},
		{"one that touches the last corner from below", triangleAnd(impl.Half{A: 1, B: -1, C: 4}), triangle},
		{"one that halves it", triangleAnd(impl.Half{A: 1, B: -1}), []impl.Half{{A: 1, B: 1, C: 4}, {A: -1}, {A: 1, B: -1}}},
		{"one that halves it the other way", triangleAnd(impl.Half{A: -1, B: 1}), []impl.Half{{A: 1, B: 1, C: 4}, {A: -1, B: 1}, {B: -1}}},
		{"one that leaves one corner", triangleAnd(impl.Half{A: -1, C: -4}), nil},
		{"one that leaves one edge", triangleAnd(impl.Half{A: -1, B: -1, C: -4}), nil},
		{"one that leaves nothing", triangleAnd(impl.Half{A: -1, B: -1, C: -5}), nil},
		{"a wider one with the same direction", triangleAnd(impl.Half{A: 1, B: 1, C: 6}), triangle},
		{"a tighter one with the same direction", triangleAnd(impl.Half{A: 1, B: 1, C: 3}), []impl.Half{{A: 1, B: 1, C: 3}, {A: -1}, {B: -1}}},
		{"ones with the same direction and another length", triangleAnd(impl.Half{A: 2, B: 2, C: 7}, impl.Half{A: 3, B: 3, C: 11}), []impl.Half{{A: 2, B: 2, C: 7}, {A: -1}, {B: -1}}},
		{"several with each direction and none between them", []impl.Half{{A: 1, C: 3}, {A: -1, C: 2}, {A: 1, C: 1}, {B: -1}, {B: 5, C: 2}, {B: 1, C: 1}, {B: -2, C: -1}}, nil},
		{"several with each direction and points between them", []impl.Half{{A: 1, C: 3}, {A: -1, C: 2}, {A: 1, C: 1}, {A: -1, C: 4}, {A: 2, C: 3}, {B: -1}, {B: 5, C: 2}, {B: 1, C: 1}},
			[]impl.Half{{A: 1, C: 1}, {B: 5, C: 2}, {A: -1, C: 2}, {B: -1}}},
		{"opposite ones with points between them", []impl.Half{{A: 1, C: 3}, {A: -1, C: -2}}, []impl.Half{{A: 1, C: 3}, {B: 1, C: maxPlace}, {A: -1, C: -2}, {B: -1, C: maxPlace}}},
		{"opposite ones with a thin strip between them", []impl.Half{{A: maxCoef, C: 3}, {A: 1 - maxCoef, C: -2}}, []impl.Half{{A: maxCoef, C: 3}, {B: 1, C: maxPlace}, {A: 1 - maxCoef, C: -2}, {B: -1, C: maxPlace}}},
		{"opposite ones that miss by a thin strip", []impl.Half{{A: maxCoef, C: 3}, {A: 1 - maxCoef, C: -3}}, nil},
		{"opposite ones with a line between them", []impl.Half{{A: 1, C: 3}, {A: -1, C: -3}}, nil},
		{"opposite ones with a line between them that is not whole", []impl.Half{{A: 2, C: 1}, {A: -2, C: -1}}, nil},
		{"opposite sloping ones with a line between them", []impl.Half{{A: 2, B: -3, C: 5}, {A: -2, B: 3, C: -5}}, nil},
		{"opposite ones with no point between them", []impl.Half{{A: 1, C: 3}, {A: -1, C: -4}}, nil},
		{"opposite ones that are half a step apart", []impl.Half{{A: 1, C: 3}, {A: -2, C: -7}}, nil},
		{"opposite ones of the triangle with a line between them", triangleAnd(impl.Half{A: 1}), nil},
		{"one point of three", []impl.Half{{A: 1}, {B: 1}, {A: -1, B: -1}}, nil},
		{"one point of four", []impl.Half{{A: 1, C: 2}, {A: -1, C: -2}, {B: 1, C: 3}, {B: -1, C: -3}}, nil},
		{"a part of a line", []impl.Half{{B: 1}, {B: -1}, {A: 1, C: 5}, {A: -1, C: 5}}, nil},
		{"a part of a sloping line", []impl.Half{{A: 1, B: -1}, {A: -1, B: 1}, {A: 1, C: 5}, {A: -1, C: 5}}, nil},
		{"nothing of three", []impl.Half{{A: 1}, {B: 1}, {A: -1, B: -1, C: -1}}, nil},
		{"three around nothing", []impl.Half{{A: -1, B: -1, C: -5}, {A: 1}, {B: 1}}, nil},
		{"a small triangle of three", []impl.Half{{A: 1}, {B: 1}, {A: -1, B: -1, C: 1}}, []impl.Half{{A: 1}, {B: 1}, {A: -1, B: -1, C: 1}}},
		{"four of eight", boxAnd(-2, -2, 2, 2, impl.Half{A: 1, B: 1, C: 2}, impl.Half{A: -1, B: 1, C: 2}, impl.Half{A: -1, B: -1, C: 2}, impl.Half{A: 1, B: -1, C: 2}),
			[]impl.Half{{A: 1, B: 1, C: 2}, {A: -1, B: 1, C: 2}, {A: -1, B: -1, C: 2}, {A: 1, B: -1, C: 2}}},
		{"eight", boxAnd(-2, -2, 2, 2, impl.Half{A: 1, B: 1, C: 3}, impl.Half{A: -1, B: 1, C: 3}, impl.Half{A: -1, B: -1, C: 3}, impl.Half{A: 1, B: -1, C: 3}),
			[]impl.Half{{A: 1, C: 2}, {A: 1, B: 1, C: 3}, {B: 1, C: 2}, {A: -1, B: 1, C: 3}, {A: -1, C: 2}, {A: -1, B: -1, C: 3}, {B: -1, C: 2}, {A: 1, B: -1, C: 3}}},
	}
}

func fromCases() []fromCase {
	return append(fromFrameCases(), fromPlaneCases()...)
}

func TestRegionFrom(t *testing.T) {
	for _, c := range fromCases() {
		got, ok := impl.RegionFrom(c.halves)
		checkRegion(t, "RegionFrom: "+c.name, c.halves, got, ok, impl.Region{Halves: c.want}, true)
		// The cases also show that the calculation used for the sweeps is right.
		got, ok = regionByBig(c.halves)
		checkRegion(t, "regionByBig: "+c.name, c.halves, got, ok, impl.Region{Halves: c.want}, true)
	}
}

func TestRegionFromInEveryOrder(t *testing.T) {
	for _, c := range fromCases() {
		if len(c.halves) <= 5 {
			forOrders(c.halves, func(order []impl.Half) { checkRegionFrom(t, order, c.want) })
			continue
		}
		source := rand.New(rand.NewPCG(5, 1))
		for range 200 {
			checkRegionFrom(t, shuffled(source, c.halves), c.want)
		}
	}
}

func TestRegionFromSeveralTimes(t *testing.T) {
	for _, c := range fromCases() {
		twice := append(slices.Clone(c.halves), c.halves...)
		checkRegionFrom(t, twice, c.want)
		slices.Reverse(twice)
		checkRegionFrom(t, twice, c.want)
		var doubled []impl.Half
		for _, h := range c.halves {
			doubled = append(doubled, h, h)
		}
		checkRegionFrom(t, doubled, c.want)
		// A region is made again by its own edges, with or without the half planes that it came from.
		if c.want != nil {
			checkRegionFrom(t, c.want, c.want)
			checkRegionFrom(t, append(slices.Clone(c.want), c.halves...), c.want)
		}
	}
}

func TestRegionFromInvalid(t *testing.T) {
	good := [][]impl.Half{nil, {{A: 1, C: 5}}, triangleAnd(), boxAnd(-1, 0, 2, 1), {{A: 1}, {A: -1}, {B: 1, C: 3}}, roundHalves(39, 500, 0)}
	for _, bad := range invalidHalves() {
		for _, list := range good {
			for at := range len(list) + 1 {
				checkNoRegion(t, slices.Insert(slices.Clone(list), at, bad))
			}
		}
		checkNoRegion(t, []impl.Half{bad, bad})
		checkNoRegion(t, slices.Repeat([]impl.Half{bad}, maxHalves))
		checkNoRegion(t, slices.Repeat([]impl.Half{bad}, maxHalves+1))
	}
}

func TestRegionFromNumberOfHalves(t *testing.T) {
	for _, c := range fromCases() {
		if len(c.halves) == 0 {
			continue
		}
		// The half planes are the same ones again and again; only their number differs.
		full := slices.Repeat(c.halves, maxHalves)[:maxHalves]
		checkRegionFrom(t, full, c.want)
		checkNoRegion(t, append(full, c.halves[0]))
		checkNoRegion(t, slices.Repeat(c.halves, maxHalves+1))
	}
	checkNoRegion(t, slices.Repeat(frameList(), 11))
	checkNoRegion(t, make([]impl.Half, 100000))
}

func TestRegionFromNumberOfEdges(t *testing.T) {
	most := roundHalves(maxHalves, 500, 0)
	checkRegionFrom(t, most, most)
	checkNoRegion(t, roundHalves(maxHalves+1, 500, 0))
	touching := roundHalves(maxHalves, maxPlace, 0)
	checkRegionFrom(t, touching, touching)
	// About this radius, all half planes and all edges of the frame are edges.
	around := roundHalves(maxHalves, maxPlace+3, 0.5)
	whole := checkRegionByBig(t, around[:maxHalves-4])
	if len(whole.Halves) != maxHalves {
		t.Errorf("%d edges", len(whole.Halves))
	}
	for n := maxHalves - 3; n <= maxHalves; n++ {
		checkNoRegion(t, around[:n])
	}
	// One half plane more leaves fewer edges than there are before it, wherever it is in the list.
	for _, cut := range []impl.Half{{A: 1}, {A: -1, B: 1, C: 3}, {A: 1, B: 1, C: maxPlace}, {A: 1, C: -maxPlace}} {
		list := around[1:]
		for _, at := range []int{0, 1, 20, 38, 39} {
			if want := checkRegionByBig(t, slices.Insert(slices.Clone(list), at, cut)); len(want.Halves) > 35 {
				t.Errorf("%v leaves %d edges", cut, len(want.Halves))
			}
		}
	}
}

func TestRegionFromManyEdgesInAnyOrder(t *testing.T) {
	source := rand.New(rand.NewPCG(5, 2))
	for _, radius := range []float64{2, 30, 500, maxPlace - 8, maxPlace, maxPlace + 3, 1100, 1413} {
		for _, start := range []float64{0, 0.5} {
			list := roundHalves(maxHalves, radius, start)
			want, wantOk := regionByBig(list)
			for range 20 {
				mixed := shuffled(source, list)
				got, ok := impl.RegionFrom(mixed)
				checkRegion(t, "RegionFrom", mixed, got, ok, want, wantOk)
			}
		}
	}
}

// poolOf returns all valid half planes with these numbers.
func poolOf(coefs []int, tops []int) []impl.Half {
	var pool []impl.Half
	for _, a := range coefs {
		for _, b := range coefs {
			for _, c := range tops {
				if h := (impl.Half{A: a, B: b, C: c}); validHalfByBig(h) {
					pool = append(pool, h)
				}
			}
		}
	}
	return pool
}

// regionPools returns half planes that meet near the origin, ones that meet at the frame, and ones with great numbers.
func regionPools() [][]impl.Half {
	return [][]impl.Half{
		poolOf([]int{-2, -1, 0, 1, 2}, []int{-2, -1, 0, 1, 2, 3}),
		poolOf([]int{-2, -1, 0, 1, 2}, []int{-3000, -2000, -1999, -1001, -1000, -999, 0, 999, 1000, 1001, 1999, 2000, 2999, 3000, 3001}),
		poolOf([]int{-maxCoef, 1 - maxCoef, -20011, -1, 0, 3, 20000, maxCoef - 1, maxCoef}, []int{-1, 0, 1, 2, maxCoef, 20000000, 49999999, maxTop - 1, maxTop}),
		poolOf([]int{-maxCoef, 1 - maxCoef, 2 - maxCoef, maxCoef - 2, maxCoef - 1, maxCoef}, []int{-2, -1, 0, 1, 2, 3, 49999}),
	}
}

func TestRegionFromPairs(t *testing.T) {
	pool := regionPools()[1]
	for i := 0; i < len(pool); i++ {
		for k := i % 17; k < len(pool); k += 17 {
			checkRegionByBig(t, []impl.Half{pool[i], pool[k]})
		}
	}
}

func TestRegionFromSweep(t *testing.T) {
	source := rand.New(rand.NewPCG(5, 3))
	for _, pool := range regionPools() {
		edges := map[int]int{}
		for range 1500 {
			var list []impl.Half
			for range source.IntN(8) {
				list = append(list, pool[source.IntN(len(pool))])
			}
			want := checkRegionByBig(t, list)
			edges[len(want.Halves)]++
		}
		if edges[0] < 30 || edges[3] < 30 || edges[4] < 30 || edges[5] < 30 {
			t.Errorf("so many edges have so many regions: %v", edges)
		}
	}
}

// A half plane whose numbers are the sums of those of two others passes through their crossing,
// so that a step of its C is the least by which three borders can miss each other.
func TestRegionFromNextToCorner(t *testing.T) {
	tested := 0
	for _, g := range poolOf([]int{-25000, -24999, -7, 24998, 25000}, []int{-40000, 1, 3, 77777}) {
		for _, h := range poolOf([]int{-24999, -3, 24997, 25000}, []int{-39999, 2, 5}) {
			if _, ok := crossingByBig(g, h); !ok {
				continue
			}
			for step := -1; step <= 1; step++ {
				sum := impl.Half{A: g.A + h.A, B: g.B + h.B, C: g.C + h.C + step}
				other := impl.Half{A: -sum.A, B: -sum.B, C: -sum.C}
				if !validHalfByBig(sum) {
					continue
				}
				tested++
				checkCornerCut(t, []impl.Half{g, h, sum}, step < 0)
				point := checkRegionByBig(t, []impl.Half{other, g, h})
				if (len(point.Halves) == 3) != (step < 0) || (len(point.Halves) == 0) != (step >= 0) {
					t.Errorf("%v, %v and %v have %v", g, h, other, point.Halves)
				}
			}
		}
	}
	if tested < 300 {
		t.Errorf("only %d corners", tested)
	}
}

// checkCornerCut takes three half planes, the last of which is an edge or not.
func checkCornerCut(t *testing.T, list []impl.Half, isEdge bool) {
	t.Helper()
	want := checkRegionByBig(t, list)
	if slices.Contains(want.Halves, list[2]) != isEdge {
		t.Errorf("%v have the edges %v", list, want.Halves)
	}
}

// The promise about regions: they contain exactly the spots at which the half planes hold.
func TestRegionFromContainsItsSpots(t *testing.T) {
	source := rand.New(rand.NewPCG(5, 4))
	for _, pool := range regionPools() {
		for range 60 {
			var list []impl.Half
			for range 1 + source.IntN(5) {
				list = append(list, pool[source.IntN(len(pool))])
			}
			p, ok := impl.RegionFrom(list)
			if !ok || impl.IsVoid(p) {
				continue
			}
			for _, s := range append(validSpots(), impl.CornersOf(p)...) {
				if got := impl.HasSpot(p, s); got != liesInAll(list, s) {
					t.Errorf("HasSpot(%v, %v) = %v, but it comes from %v", p, s, got, list)
				}
			}
		}
	}
}

// goodRegions returns valid regions that are not void.
func goodRegions() []impl.Region {
	var list []impl.Region
	for _, c := range fromCases() {
		if c.want != nil {
			list = append(list, impl.Region{Halves: c.want})
		}
	}
	list = append(list,
		impl.Region{Halves: roundHalves(maxHalves, 500, 0)},
		impl.Region{Halves: roundHalves(maxHalves-1, 2, 0)},
		impl.Region{Halves: []impl.Half{{A: 2, C: 1}, {B: 3, C: 2}, {A: -7, B: -5, C: 1}}},
		impl.Region{Halves: []impl.Half{{A: maxCoef, B: maxCoef - 1, C: 1}, {A: 1 - maxCoef, B: maxCoef, C: 2}, {A: -1, B: -maxCoef, C: 3}}},
	)
	return list
}

// wrongRegions returns regions with half planes that are not valid.
func wrongRegions() []impl.Region {
	lists := [][]impl.Half{
		{{A: 1, C: 2}},
		{{A: 1, C: 2}, {B: 1, C: 2}},
		{{A: 1, B: 1, C: 4}, {A: -1}},
		frameList()[:3],
		frameList()[1:],
		{{A: 1}, {A: -1}},
		{{A: 1}, {B: 1}, {A: -1, B: -1}},
		{{A: 1, C: 2}, {A: -1, C: -2}, {B: 1, C: 3}, {B: -1, C: -3}},
		{{A: 1}, {B: 1}, {A: -1, B: -1, C: -1}},
		boxAnd(3, 3, 3, 5),
		boxAnd(5, 3, 4, 5),
		boxAnd(-maxPlace, -maxPlace, maxPlace, maxPlace+1),
		boxAnd(-maxPlace-1, -maxPlace, maxPlace, maxPlace),
		{{A: 1, B: 1, C: 4}, {A: 1, B: 1, C: 6}, {A: -1}, {B: -1}},
		{{A: 1, B: 1, C: 4}, {A: 1, B: 1, C: 4}, {A: -1}, {B: -1}},
		{{A: 1, C: 4}, {A: 1, B: 1, C: 4}, {A: -1}, {B: -1}},
		{{A: 1, C: 9}, {A: 1, B: 1, C: 4}, {A: -1}, {B: -1}},
		{{A: 1, B: 1, C: 4}, {A: 1, B: 2, C: 8}, {A: -1}, {B: -1}},
		{{A: 2, B: 2, C: 8}, {A: -1}, {B: -1}},
		{{A: 1, B: 1, C: 4}, {A: -2}, {B: -1}},
		{{A: 1, B: 1, C: 4}, {A: -1}, {B: -1}, {}},
		{{}, {A: 1, B: 1, C: 4}, {A: -1}, {B: -1}},
		{{}},
		roundHalves(maxHalves, maxPlace+3, 0.5),
		roundHalves(maxHalves+1, 500, 0),
		roundHalves(100, 500, 0),
	}
	var list []impl.Region
	for _, halves := range lists {
		list = append(list, impl.Region{Halves: halves})
	}
	for _, bad := range invalidHalves() {
		list = append(list, impl.Region{Halves: []impl.Half{bad}})
		for at := range 4 {
			list = append(list, impl.Region{Halves: slices.Insert(triangleAnd(), at, bad)})
		}
	}
	return list
}

func TestRegionOk(t *testing.T) {
	for _, p := range []impl.Region{{}, {Halves: []impl.Half{}}, {Halves: frameList()}} {
		if !impl.RegionOk(p) {
			t.Errorf("RegionOk(%v) is false", p)
		}
	}
	for _, p := range goodRegions() {
		if !impl.RegionOk(p) || !validRegionByBig(p) {
			t.Errorf("RegionOk(%v) = %v", p, impl.RegionOk(p))
		}
	}
	for _, p := range wrongRegions() {
		if impl.RegionOk(p) || validRegionByBig(p) {
			t.Errorf("RegionOk(%v) = %v", p, impl.RegionOk(p))
		}
	}
}

func TestRegionOkNeedsTheOrder(t *testing.T) {
	wrong := func(halves []impl.Half) {
		t.Helper()
		if impl.RegionOk(impl.Region{Halves: halves}) {
			t.Errorf("RegionOk of %v is true", halves)
		}
	}
	for _, p := range goodRegions() {
		n := len(p.Halves)
		for start := 1; start < n; start++ {
			wrong(append(slices.Clone(p.Halves[start:]), p.Halves[:start]...))
			changed := slices.Clone(p.Halves)
			changed[start-1], changed[start] = changed[start], changed[start-1]
			wrong(changed)
		}
		back := slices.Clone(p.Halves)
		slices.Reverse(back)
		wrong(back)
		for i, h := range p.Halves {
			wrong(slices.Insert(slices.Clone(p.Halves), i, h))
		}
		wrong(append(slices.Clone(p.Halves), p.Halves[0]))
	}
}

func TestRegionOkSweep(t *testing.T) {
	source := rand.New(rand.NewPCG(5, 5))
	pool := poolOf([]int{-1, 0, 1}, []int{-1, 0, 1, 2})
	valid := 0
	for range 4000 {
		var halves []impl.Half
		for range 3 + source.IntN(3) {
			halves = append(halves, pool[source.IntN(len(pool))])
		}
		slices.SortStableFunc(halves, compareAngles)
		p := impl.Region{Halves: halves}
		want := validRegionByBig(p)
		if want {
			valid++
		}
		if got := impl.RegionOk(p); got != want {
			t.Errorf("RegionOk(%v) = %v", p, got)
		}
	}
	if valid < 50 {
		t.Errorf("only %d regions are valid", valid)
	}
}

func TestIsVoid(t *testing.T) {
	if !impl.IsVoid(impl.Region{}) || !impl.IsVoid(impl.Region{Halves: []impl.Half{}}) || !impl.IsVoid(impl.Region{Halves: triangleAnd()[:0]}) {
		t.Error("a region without half planes is not void")
	}
	for _, p := range append(goodRegions(), wrongRegions()...) {
		if impl.IsVoid(p) {
			t.Errorf("IsVoid(%v) is true", p)
		}
	}
}

func TestSameRegion(t *testing.T) {
	list := append(goodRegions(), wrongRegions()...)
	list = append(list, impl.Region{}, impl.Region{Halves: []impl.Half{}})
	for _, p := range list {
		for _, q := range list {
			if got := impl.SameRegion(p, q); got != slices.Equal(p.Halves, q.Halves) {
				t.Errorf("SameRegion(%v, %v) = %v", p, q, got)
			}
		}
		if !impl.SameRegion(p, impl.Region{Halves: slices.Clone(p.Halves)}) {
			t.Errorf("SameRegion(%v) of a copy is false", p)
		}
	}
	p := impl.Region{Halves: triangleAnd()}
	for _, q := range [][]impl.Half{
		nil, triangleAnd()[:2], triangleAnd()[1:], triangleAnd(impl.Half{B: -1}), {{A: -1}, {B: -1}, {A: 1, B: 1, C: 4}},
		{{A: 1, B: 1, C: 5}, {A: -1}, {B: -1}}, {{A: 1, B: 2, C: 4}, {A: -1}, {B: -1}}, {{A: 1, B: 1, C: 4}, {A: -1}, {A: 1, B: -1}},
		{{A: 2, B: 2, C: 8}, {A: -1}, {B: -1}},
	} {
		if impl.SameRegion(p, impl.Region{Halves: q}) || impl.SameRegion(impl.Region{Halves: q}, p) {
			t.Errorf("SameRegion(%v, %v) is true", p, q)
		}
	}
}

func TestCornersOf(t *testing.T) {
	cases := []struct {
		halves []impl.Half
		want   []impl.Spot
	}{
		{triangleAnd(), []impl.Spot{{Y: 4, D: 1}, {D: 1}, {X: 4, D: 1}}},
		{boxAnd(-1, 0, 2, 1), []impl.Spot{{X: 2, Y: 1, D: 1}, {X: -1, Y: 1, D: 1}, {X: -1, D: 1}, {X: 2, D: 1}}},
		{frameList(), []impl.Spot{{X: maxPlace, Y: maxPlace, D: 1}, {X: -maxPlace, Y: maxPlace, D: 1}, {X: -maxPlace, Y: -maxPlace, D: 1}, {X: maxPlace, Y: -maxPlace, D: 1}}},
		{[]impl.Half{{A: 2, C: 1}, {B: 3, C: 2}, {A: -7, B: -5, C: 1}}, []impl.Spot{{X: 3, Y: 4, D: 6}, {X: -13, Y: 14, D: 21}, {X: 5, Y: -9, D: 10}}},
		{[]impl.Half{{A: 1, B: 1, C: 1}, {A: -1, B: 1}, {B: -1}}, []impl.Spot{{X: 1, Y: 1, D: 2}, {D: 1}, {X: 1, D: 1}}},
		{[]impl.Half{{A: 1}, {A: -1, B: 1, C: 1}, {A: -1, B: -1, C: 2}}, []impl.Spot{{Y: 1, D: 1}, {X: -3, Y: -1, D: 2}, {Y: -2, D: 1}}},
		{[]impl.Half{{A: 1, B: 1}, {A: -1, C: maxPlace}, {B: -1, C: maxPlace}}, []impl.Spot{{X: -maxPlace, Y: maxPlace, D: 1}, {X: -maxPlace, Y: -maxPlace, D: 1}, {X: maxPlace, Y: -maxPlace, D: 1}}},
		{[]impl.Half{{A: maxCoef, B: maxCoef - 1, C: 1}, {A: 1 - maxCoef, B: maxCoef, C: 1}, {B: -1, C: 1}},
			[]impl.Spot{{X: 1, Y: 99999, D: 4999900001}, {X: -50001, Y: -49999, D: 49999}, {X: 1, Y: -1, D: 1}}},
	}
	for _, c := range cases {
		if got := impl.CornersOf(impl.Region{Halves: c.halves}); !slices.Equal(got, c.want) {
			t.Errorf("CornersOf(%v) = %v, want %v", c.halves, got, c.want)
		}
	}
}

func TestCornersOfEveryRegion(t *testing.T) {
	for _, p := range goodRegions() {
		n := len(p.Halves)
		corners := impl.CornersOf(p)
		if len(corners) != n {
			t.Errorf("CornersOf(%v) = %v", p, corners)
			continue
		}
		for i, s := range corners {
			want, ok := crossingByBig(p.Halves[i], p.Halves[(i+1)%n])
			checkSpot(t, "CornersOf", p, s, true, want, ok)
			if !liesInAll(p.Halves, s) || !impl.HasSpot(p, s) || s == corners[(i+1)%n] {
				t.Errorf("CornersOf(%v) has %v", p, s)
			}
		}
		// The corners are all the crossings that the region has.
		if all := cornersByBig(p.Halves); len(all) != n {
			t.Errorf("CornersOf(%v) = %v, but the crossings are %v", p, corners, all)
		}
	}
}

func TestCornersOfNone(t *testing.T) {
	for _, p := range append(wrongRegions(), impl.Region{}, impl.Region{Halves: []impl.Half{}}) {
		if got := impl.CornersOf(p); got != nil {
			t.Errorf("CornersOf(%v) = %v", p, got)
		}
	}
}

func TestHasSpot(t *testing.T) {
	triangle := impl.Region{Halves: triangleAnd()}
	in := []impl.Spot{
		{X: 1, Y: 1, D: 1}, {X: 1, Y: 1, D: 3}, {X: 1, Y: 1, D: maxDen}, {X: 2, Y: 2, D: 1}, {X: 1, Y: 3, D: 1}, {X: 1, Y: 7, D: 2},
		{X: 1, D: 2}, {Y: 7, D: 3}, {D: 1}, {X: 4, D: 1}, {Y: 4, D: 1}, {X: 1, D: maxDen}, {Y: 4*maxDen - 1, D: maxDen},
		{X: 2*maxDen - 1, Y: 2*maxDen + 1, D: maxDen},
	}
	out := []impl.Spot{
		{X: 5, Y: 4, D: 2}, {X: 3, Y: 2, D: 1}, {X: -1, D: 1}, {Y: -1, D: 1}, {X: 5, D: 1}, {Y: 5, D: 1}, {X: -1, Y: 5, D: 1}, {X: 5, Y: -1, D: 1},
		{X: -1, Y: -1, D: 1}, {X: -1, Y: 1, D: maxDen}, {X: 1, Y: -1, D: maxDen}, {X: 2*maxDen + 1, Y: 2 * maxDen, D: maxDen}, {X: 4*maxDen + 1, D: maxDen},
		{X: maxPlace, Y: maxPlace, D: 1}, {X: -maxPlace, Y: -maxPlace, D: 1},
	}
	for _, s := range in {
		if !impl.HasSpot(triangle, s) {
			t.Errorf("the triangle does not have %v", s)
		}
	}
	for _, s := range out {
		if impl.HasSpot(triangle, s) {
			t.Errorf("the triangle has %v", s)
		}
	}
	for _, s := range validSpots() {
		if !impl.HasSpot(impl.Region{Halves: frameList()}, s) {
			t.Errorf("the frame does not have %v", s)
		}
	}
}

func TestHasSpotAtCornersAndEdges(t *testing.T) {
	for _, p := range goodRegions() {
		corners := impl.CornersOf(p)
		spots := slices.Clone(corners)
		for i, s := range corners {
			if middle, ok := impl.HalfWay(s, corners[(i+1)%len(corners)]); ok {
				spots = append(spots, middle)
				if !impl.HasSpot(p, middle) {
					t.Errorf("HasSpot(%v, %v) is false in the middle of an edge", p, middle)
				}
			}
			for _, step := range [][2]int{{0, 1}, {0, -1}, {1, 0}, {-1, 0}, {1, 1}, {-1, -1}} {
				if near := (impl.Spot{X: s.X + step[0], Y: s.Y + step[1], D: s.D}); validSpotByBig(near) {
					spots = append(spots, near)
				}
			}
		}
		for _, s := range spots {
			if got := impl.HasSpot(p, s); got != liesInAll(p.Halves, s) {
				t.Errorf("HasSpot(%v, %v) = %v", p, s, got)
			}
		}
	}
}

func TestHasSpotInvalid(t *testing.T) {
	for _, p := range append(goodRegions(), impl.Region{}) {
		for _, s := range invalidSpots() {
			if impl.HasSpot(p, s) {
				t.Errorf("HasSpot(%v, %v) is true", p, s)
			}
		}
	}
	spots := []impl.Spot{{D: 1}, {X: 1, Y: 1, D: 1}, {X: 2, Y: 3, D: 1}, {X: 1, Y: 1, D: 2}, {}}
	for _, p := range append(wrongRegions(), impl.Region{}, impl.Region{Halves: []impl.Half{}}) {
		for _, s := range spots {
			if impl.HasSpot(p, s) {
				t.Errorf("HasSpot(%v, %v) is true", p, s)
			}
		}
	}
}

func TestBoxRegion(t *testing.T) {
	type box struct{ x0, y0, x1, y1 int }
	good := []box{
		{-1, 0, 2, 1}, {0, 0, 1, 1}, {-5, -7, -3, -4}, {-maxPlace, -maxPlace, maxPlace, maxPlace}, {-maxPlace, 3, 1 - maxPlace, 4},
		{maxPlace - 1, maxPlace - 1, maxPlace, maxPlace}, {-maxPlace, -maxPlace, 1 - maxPlace, 1 - maxPlace}, {0, -maxPlace, 7, maxPlace},
	}
	for _, b := range good {
		got, ok := impl.BoxRegion(b.x0, b.y0, b.x1, b.y1)
		want := impl.Region{Halves: boxAnd(b.x0, b.y0, b.x1, b.y1)}
		checkRegion(t, "BoxRegion", b, got, ok, want, true)
		if !impl.RegionOk(got) || !validRegionByBig(want) {
			t.Errorf("BoxRegion of %v is not valid", b)
		}
	}
	wrong := []box{
		{}, {0, 0, 0, 1}, {0, 0, 1, 0}, {3, 3, 3, 3}, {1, 0, 0, 1}, {0, 1, 1, 0}, {2, 2, 1, 1},
		{-maxPlace - 1, 0, 1, 1}, {0, -maxPlace - 1, 1, 1}, {0, 0, maxPlace + 1, 1}, {0, 0, 1, maxPlace + 1},
		{maxPlace, 0, maxPlace, 1}, {maxPlace, 0, maxPlace + 1, 1}, {-maxPlace - 1, 0, -maxPlace, 1}, {0, maxPlace, 1, maxPlace + 1},
		{maxPlace, maxPlace, -maxPlace, -maxPlace}, {maxPlace, -maxPlace, -maxPlace, maxPlace},
	}
	for _, b := range wrong {
		got, ok := impl.BoxRegion(b.x0, b.y0, b.x1, b.y1)
		checkRegion(t, "BoxRegion", b, got, ok, impl.Region{}, false)
	}
}

func TestBoxRegionSweep(t *testing.T) {
	places := []int{math.MinInt, math.MinInt + 1, -1 << 32, -maxPlace - 1, -maxPlace, -1, 0, 1, maxPlace, maxPlace + 1, 1 << 32, math.MaxInt - 1, math.MaxInt}
	extent := func(low int, high int) bool {
		return within(low, -maxPlace, maxPlace) && within(high, low, maxPlace) && low != high
	}
	for _, x0 := range places {
		for _, y0 := range places {
			for _, x1 := range places {
				for _, y1 := range places {
					wantOk := extent(x0, x1) && extent(y0, y1)
					var want impl.Region
					if wantOk {
						want.Halves = boxAnd(x0, y0, x1, y1)
					}
					got, ok := impl.BoxRegion(x0, y0, x1, y1)
					checkRegion(t, "BoxRegion", []int{x0, y0, x1, y1}, got, ok, want, wantOk)
				}
			}
		}
	}
}

// wholeSpotsByCounting tries every whole spot of the frame; for valid half planes no product overflows.
func wholeSpotsByCounting(halves []impl.Half) int {
	count := 0
	for x := -maxPlace; x <= maxPlace; x++ {
		for y := -maxPlace; y <= maxPlace; y++ {
			if !slices.ContainsFunc(halves, func(h impl.Half) bool { return h.A*x+h.B*y > h.C }) {
				count++
			}
		}
	}
	return count
}

func TestWholeSpots(t *testing.T) {
	cases := []struct {
		halves []impl.Half
		want   int
	}{
		{triangleAnd(), 15},
		{boxAnd(-1, 0, 2, 1), 8},
		{boxAnd(0, 0, 1, 1), 4},
		{frameList(), 2001 * 2001},
		{boxAnd(-maxPlace, 0, maxPlace, 1), 4002},
		{boxAnd(0, -maxPlace, 1, maxPlace), 4002},
		{boxAnd(maxPlace-1, maxPlace-1, maxPlace, maxPlace), 4},
		{boxAnd(-maxPlace, -maxPlace, 1-maxPlace, 1-maxPlace), 4},
		{[]impl.Half{{A: 2, C: 5}, {B: 2, C: 5}, {A: -2, C: 5}, {B: -2, C: 5}}, 25},
		{[]impl.Half{{A: 3, C: 2}, {B: 3, C: 2}, {A: -3, C: -1}, {B: -3, C: -1}}, 0},
		{[]impl.Half{{A: 3, C: 2}, {B: 1, C: 3}, {A: -3, C: -1}, {B: -1}}, 0},
		{[]impl.Half{{A: 1, C: 3}, {B: 3, C: 2}, {A: -1}, {B: -3, C: -1}}, 0},
		{[]impl.Half{{A: 2, C: 1}, {B: 2, C: 1}, {A: -2, C: 1}, {B: -2, C: 1}}, 1},
		{[]impl.Half{{A: 1, C: 3}, {B: 3, C: 1}, {A: -1}, {B: -3, C: 1}}, 4},
		{[]impl.Half{{A: 2, C: 1}, {B: 3, C: 2}, {A: -7, B: -5, C: 1}}, 1},
		{[]impl.Half{{A: 1, B: 1, C: 2}, {A: -1, B: 1, C: 2}, {A: -1, B: -1, C: 2}, {A: 1, B: -1, C: 2}}, 13},
		{[]impl.Half{{A: 1, B: 1}, {A: -1, C: maxPlace}, {B: -1, C: maxPlace}}, 2001 * 2002 / 2},
		{[]impl.Half{{A: 1, B: 1, C: -1999}, {A: -1, C: maxPlace}, {B: -1, C: maxPlace}}, 3},
		{[]impl.Half{{A: 2, B: 2, C: -3999}, {A: -1, C: maxPlace}, {B: -1, C: maxPlace}}, 1},
	}
	for _, c := range cases {
		if got := impl.WholeSpots(impl.Region{Halves: c.halves}); got != c.want {
			t.Errorf("WholeSpots(%v) = %d, want %d", c.halves, got, c.want)
		}
	}
}

func TestWholeSpotsByCounting(t *testing.T) {
	for _, p := range goodRegions() {
		if got, want := impl.WholeSpots(p), wholeSpotsByCounting(p.Halves); got != want {
			t.Errorf("WholeSpots(%v) = %d, want %d", p, got, want)
		}
	}
}

func TestWholeSpotsNone(t *testing.T) {
	for _, p := range append(wrongRegions(), impl.Region{}, impl.Region{Halves: []impl.Half{}}) {
		if got := impl.WholeSpots(p); got != 0 {
			t.Errorf("WholeSpots(%v) = %d", p, got)
		}
	}
}

// mark stands in the spare capacity behind arguments.
var mark = impl.Half{A: 77, B: 78, C: 79}

// withSpare returns a copy of halves that has marked spare capacity behind it.
func withSpare(halves []impl.Half) []impl.Half {
	list := append(slices.Clone(halves), slices.Repeat([]impl.Half{mark}, maxHalves+8)...)
	return list[:len(halves)]
}

func isUntouched(list []impl.Half, halves []impl.Half) bool {
	spare := list[len(list) : len(list)+maxHalves+8]
	return slices.Equal(list, halves) && !slices.ContainsFunc(spare, func(h impl.Half) bool { return h != mark })
}

// scribble overwrites a list and all its spare capacity.
func scribble[T any](list []T) {
	var zero T
	for i := range list[:cap(list)] {
		list[:cap(list)][i] = zero
	}
}

func TestRegionsLeaveTheirArguments(t *testing.T) {
	lists := [][]impl.Half{nil, roundHalves(maxHalves, maxPlace+3, 0.5)}
	for _, c := range fromCases() {
		lists = append(lists, c.halves)
	}
	for _, p := range append(goodRegions(), wrongRegions()...) {
		lists = append(lists, p.Halves)
	}
	for _, halves := range lists {
		arg, other := withSpare(halves), withSpare(halves)
		p, q := impl.Region{Halves: arg}, impl.Region{Halves: other}
		impl.RegionFrom(arg)
		impl.RegionOk(p)
		impl.IsVoid(p)
		impl.SameRegion(p, q)
		impl.CornersOf(p)
		impl.HasSpot(p, impl.Spot{X: 1, Y: 1, D: 1})
		impl.WholeSpots(p)
		if !isUntouched(arg, halves) || !isUntouched(other, halves) {
			t.Errorf("%v is changed", halves)
		}
	}
}

func TestRegionsAreNewEachTime(t *testing.T) {
	for _, p := range goodRegions() {
		arg := withSpare(p.Halves)
		first, _ := impl.RegionFrom(arg)
		second, _ := impl.RegionFrom(arg)
		scribble(first.Halves)
		if !isUntouched(arg, p.Halves) || !slices.Equal(second.Halves, p.Halves) {
			t.Errorf("RegionFrom(%v) shares memory", p.Halves)
		}
		scribble(arg)
		if !slices.Equal(second.Halves, p.Halves) {
			t.Errorf("RegionFrom(%v) shares memory with its argument", p.Halves)
		}
		corners, again := impl.CornersOf(p), impl.CornersOf(p)
		scribble(corners)
		if !slices.Equal(again, impl.CornersOf(p)) {
			t.Errorf("CornersOf(%v) shares memory", p)
		}
	}
	box, _ := impl.BoxRegion(-1, 0, 2, 1)
	other, _ := impl.BoxRegion(-1, 0, 2, 1)
	scribble(box.Halves)
	if !slices.Equal(other.Halves, boxAnd(-1, 0, 2, 1)) {
		t.Error("BoxRegion shares memory")
	}
}
