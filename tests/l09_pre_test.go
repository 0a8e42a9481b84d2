package tests

import (
	"math/big"
	"math/rand/v2"
	"slices"
	"testing"

	"loop.example/g00832/impl"
)

// halvingRoom halves its second coordinate and moves the first one by the input.
func halvingRoom() impl.Room {
	return impl.Room{Map: []int{2, 0, 0, 1}, Div: 2, Bx: 1, Low: -2, High: 2, Noise: boxOf(-1, -1, 1, 1), Limits: boxOf(-5, -9, 5, 9)}
}

// changed returns a room with lists of its own.
func changed(r impl.Room, change func(r *impl.Room)) impl.Room {
	r = roomClipped(r)
	change(&r)
	return r
}

// robustByBig and the following ones take any arguments and do what the chapter says, step by step.
func robustByBig(r impl.Room, p impl.Region) (impl.Region, bool) {
	if !validRoomByBig(r) || !validRegionByBig(p) {
		return impl.Region{}, false
	}
	return erodeByBig(p, r.Noise)
}

func preByBig(r impl.Room, p impl.Region) (impl.Region, bool) {
	q, ok := robustByBig(r, p)
	if ok {
		q, ok = growByBig(q, r.Bx, r.By, r.Low, r.High)
	}
	if ok {
		q, ok = pullByBig(q, r.Map, r.Div)
	}
	if !ok {
		return impl.Region{}, false
	}
	return q, true
}

func keepByBig(r impl.Room, p impl.Region) (impl.Region, bool) {
	q, ok := preByBig(r, p)
	if !ok {
		return impl.Region{}, false
	}
	return meetByBig(p, q)
}

func keptByBig(r impl.Room, p impl.Region) bool {
	q, ok := preByBig(r, p)
	return ok && withinByBig(p, r.Limits) && withinByBig(p, q)
}

func heldByBig(r impl.Room, s impl.Spot, u impl.Ratio, p impl.Region) bool {
	if !validRoomByBig(r) || !validByBig(u) || bigRat(u).Cmp(whole(r.Low)) < 0 || bigRat(u).Cmp(whole(r.High)) > 0 {
		return false
	}
	if len(p.Halves) == 0 || !validRegionByBig(p) {
		return false
	}
	for _, d := range orderedCorners(r.Noise) {
		if !isStep(r, s, u, d) {
			return false
		}
		if next, ok := nextByBig(r, s, u, d); !ok || !liesInAll(p.Halves, next) {
			return false
		}
	}
	return true
}

func checkRobust(t *testing.T, name string, r impl.Room, p impl.Region, want impl.Region, wantOk bool) {
	t.Helper()
	got, ok := impl.RobustPart(r, p)
	checkRegion(t, "RobustPart: "+name, []any{r, p}, got, ok, want, wantOk)
}

func checkPre(t *testing.T, name string, r impl.Room, p impl.Region, want impl.Region, wantOk bool) {
	t.Helper()
	got, ok := impl.PreRegion(r, p)
	checkRegion(t, "PreRegion: "+name, []any{r, p}, got, ok, want, wantOk)
}

func checkKeep(t *testing.T, name string, r impl.Room, p impl.Region, want impl.Region, wantOk bool) {
	t.Helper()
	got, ok := impl.KeepRegion(r, p)
	checkRegion(t, "KeepRegion: "+name, []any{r, p}, got, ok, want, wantOk)
}

func checkKept(t *testing.T, name string, r impl.Room, p impl.Region, want bool) {
	t.Helper()
	if got := impl.IsKept(r, p); got != want {
		t.Errorf("IsKept: %s: of %v and %v = %v", name, r, p, got)
	}
}

func checkHeld(t *testing.T, name string, r impl.Room, s impl.Spot, u impl.Ratio, p impl.Region, want bool) {
	t.Helper()
	if got := impl.IsHeld(r, s, u, p); got != want {
		t.Errorf("IsHeld: %s: of %v, %v, %v and %v = %v", name, r, s, u, p, got)
	}
}

// checkRegionsByBig checks all functions of a room and a region, and returns PreRegion.
func checkRegionsByBig(t *testing.T, name string, r impl.Room, p impl.Region) (impl.Region, bool) {
	t.Helper()
	robust, robustOk := robustByBig(r, p)
	checkRobust(t, name, r, p, robust, robustOk)
	pre, preOk := preByBig(r, p)
	checkPre(t, name, r, p, pre, preOk)
	var keep impl.Region
	keepOk := false
	if preOk {
		keep, keepOk = meetByBig(p, pre)
	}
	checkKeep(t, name, r, p, keep, keepOk)
	checkKept(t, name, r, p, preOk && withinByBig(p, r.Limits) && withinByBig(p, pre))
	return pre, preOk
}

// checkRefused checks that a room and a region have no result at all, for one of them is not valid.
func checkRefused(t *testing.T, name string, r impl.Room, p impl.Region) {
	t.Helper()
	checkRobust(t, name, r, p, impl.Region{}, false)
	checkPre(t, name, r, p, impl.Region{}, false)
	checkKeep(t, name, r, p, impl.Region{}, false)
	checkKept(t, name, r, p, false)
	for _, u := range []impl.Ratio{{D: 1}, {N: 1, D: 2}, {N: -8, D: 1}, {N: 9, D: 1}} {
		checkHeld(t, name, r, impl.Spot{D: 1}, u, p, false)
		checkHeld(t, name, r, impl.Spot{X: 1, Y: 2, D: 3}, u, p, false)
	}
}

func TestRobustPart(t *testing.T) {
	for _, c := range erodeCases() {
		for _, r := range []impl.Room{someRoom(), plainRoom(0, 0), halvingRoom()} {
			r.Noise = c.w
			checkRobust(t, c.name, r, c.p, c.want, true)
		}
		// Neither Map, nor the inputs, nor Limits count.
		for _, r := range goodRooms() {
			r.Noise = c.w
			checkRobust(t, c.name, r, c.p, c.want, true)
		}
	}
	for _, void := range voidRegions() {
		for _, r := range goodRooms() {
			checkRobust(t, "void", r, void, impl.Region{}, true)
		}
	}
	r := halvingRoom()
	checkRobust(t, "Limits", r, r.Limits, boxOf(-4, -8, 4, 8), true)
	checkRobust(t, "Noise", r, r.Noise, impl.Region{}, true)
	checkRobust(t, "the frame", r, impl.Region{Halves: frameList()}, boxOf(-999, -999, 999, 999), true)
}

type preCase struct {
	name string
	r    impl.Room
	p    impl.Region
	pre  impl.Region
	keep impl.Region
}

func stepCases() []preCase {
	still, along, up, halving := plainRoom(0, 0), plainRoom(1, 0), plainRoom(0, -1), halvingRoom()
	box, frame := boxOf(-5, -5, 5, 5), impl.Region{Halves: frameList()}
	mapped := func(bx int, by int, div int, m ...int) impl.Room {
		return changed(plainRoom(bx, by), func(r *impl.Room) { r.Map, r.Div = m, div })
	}
	ranged := func(bx int, by int, low int, high int) impl.Room {
		return changed(plainRoom(bx, by), func(r *impl.Room) { r.Low, r.High = low, high })
	}
	noisy := func(r impl.Room, noise impl.Region) impl.Room {
		return changed(r, func(r *impl.Room) { r.Noise = noise })
	}
	six := impl.Region{Halves: []impl.Half{{A: 1, C: 5}, {B: 1, C: 5}, {A: -1, B: 1, C: 8}, {A: -1, C: 5}, {B: -1, C: 5}, {A: 1, B: -1, C: 8}}}
	uneven := impl.Region{Halves: []impl.Half{{A: 2, C: 15}, {B: 6, C: 65}, {A: -63, C: 460}, {B: -4, C: 41}}}
	return []preCase{
		{"the limits", halving, halving.Limits, boxOf(-6, -16, 6, 16), halving.Limits},
		{"p itself", mapped(1, 0, 2, 2, 0, 0, 1), boxOf(-5, -2, 5, 2), boxOf(-5, -2, 5, 2), boxOf(-5, -2, 5, 2)},
		{"a part of p", along, box, boxOf(-5, -4, 5, 4), boxOf(-5, -4, 5, 4)},
		{"more than p", mapped(1, 0, 2, 1, 0, 0, 1), box, boxOf(-10, -8, 10, 8), box},
		{"no drive", still, box, boxOf(-4, -4, 4, 4), boxOf(-4, -4, 4, 4)},
		{"a drive down", up, box, boxOf(-4, -5, 4, 5), boxOf(-4, -5, 4, 5)},
		{"a drive aslant", plainRoom(1, 1), box, six, six},
		{"a drive aslant the other way", plainRoom(-1, -1), box, six, six},
		{"inputs above 0", ranged(1, 0, 1, 2), box, boxOf(-6, -4, 3, 4), boxOf(-5, -4, 3, 4)},
		{"inputs below 0", ranged(1, 0, -2, -1), box, boxOf(-3, -4, 6, 4), boxOf(-3, -4, 5, 4)},
		{"inputs to one side with a drive back", ranged(-2, 0, 0, 1), box, boxOf(-4, -4, 6, 4), boxOf(-4, -4, 5, 4)},
		{"one input", ranged(1, 0, 3, 3), box, boxOf(-7, -4, 1, 4), boxOf(-5, -4, 1, 4)},
		{"one input up", ranged(0, 2, -2, -2), box, boxOf(-4, 0, 4, 8), boxOf(-4, 0, 4, 5)},
		{"one input without a drive", ranged(0, 0, 7, 7), box, boxOf(-4, -4, 4, 4), boxOf(-4, -4, 4, 4)},
		{"the input 0", ranged(3, 7, 0, 0), box, boxOf(-4, -4, 4, 4), boxOf(-4, -4, 4, 4)},
		{"Noise without the origin", noisy(along, boxOf(1, 2, 3, 4)), box, boxOf(-7, -7, 3, 1), boxOf(-5, -5, 3, 1)},
		{"Noise far from the origin", noisy(along, boxOf(-20, 1, -18, 2)), box, boxOf(14, -6, 24, 3), impl.Region{}},
		{"Noise with the origin at a corner", noisy(along, boxOf(0, 0, 1, 2)), box, boxOf(-6, -5, 5, 3), boxOf(-5, -5, 5, 3)},
		{"Noise of fractions", noisy(mapped(0, 0, 5, 3, 0, 0, 2), fractions()), box, uneven, box},
		{"the coordinates exchanged", mapped(1, 0, 1, 0, 1, 1, 0), boxOf(-5, -3, 5, 3), boxOf(-2, -5, 2, 5), boxOf(-2, -3, 2, 3)},
		{"turned", mapped(1, 0, 1, 0, 1, -1, 0), boxOf(1, 2, 9, 8), boxOf(-7, 1, -3, 9), impl.Region{}},
		{"turned back", mapped(1, 0, 1, 0, -1, 1, 0), boxOf(1, 2, 9, 8), boxOf(3, -9, 7, -1), impl.Region{}},
		{"mirrored", mapped(0, 1, 1, -1, 0, 0, 1), boxOf(1, 2, 9, 8), boxOf(-8, 2, -2, 8), impl.Region{}},
		{"larger by the map and then by the drive", mapped(3, 0, 1, 2, 0, 0, 1), boxOf(-10, -5, 10, 5), boxOf(-6, -4, 6, 4), boxOf(-6, -4, 6, 4)},
		{"aslant by the map", mapped(0, 0, 1, 1, 1, 0, 1), box, impl.Region{Halves: []impl.Half{{A: 1, B: 1, C: 4}, {B: 1, C: 4}, {A: -1, B: -1, C: 4}, {B: -1, C: 4}}},
			impl.Region{Halves: []impl.Half{{A: 1, C: 5}, {A: 1, B: 1, C: 4}, {B: 1, C: 4}, {A: -1, C: 5}, {A: -1, B: -1, C: 4}, {B: -1, C: 4}}}},
		{"the frame of a part of it", mapped(1, 0, 20, 1, 0, 0, 1), boxOf(-60, -60, 60, 60), frame, boxOf(-60, -60, 60, 60)},
		{"the frame of the frame", halving, frame, frame, frame},
		{"a part of the frame", along, frame, boxOf(-1000, -999, 1000, 999), boxOf(-1000, -999, 1000, 999)},
		{"only beside p", ranged(1, 0, 11, 12), box, boxOf(-16, -4, -7, 4), impl.Region{}},
		{"next to p", ranged(1, 0, 9, 10), box, boxOf(-14, -4, -5, 4), impl.Region{}},
	}
}

// edgeCases have nothing left, or less than the map and the inputs alone would leave.
func edgeCases() []preCase {
	along, frame := plainRoom(1, 0), impl.Region{Halves: frameList()}
	wide := changed(plainRoom(5, 0), func(r *impl.Room) { r.Low, r.High = -1000, 1000 })
	out := changed(plainRoom(100, 0), func(r *impl.Room) { r.Low, r.High = -20, -11 })
	half := changed(plainRoom(1, 0), func(r *impl.Room) { r.Div = 2 })
	double := changed(plainRoom(1, 0), func(r *impl.Room) { r.Map, r.Low, r.High = []int{2, 0, 0, 2}, -1000, 1000 })
	large := changed(plainRoom(1, 0), func(r *impl.Room) { r.Noise = boxOf(-6, -1, 6, 1) })
	box, void := boxOf(-5, -5, 5, 5), impl.Region{}
	return []preCase{
		{"a void region", along, void, void, void},
		{"a void region with many inputs", wide, void, void, void},
		{"a point left by Noise", wide, boxOf(-1, -1, 1, 1), void, void},
		{"a line left by Noise", wide, boxOf(-1, -5, 1, 5), void, void},
		{"a level line left by Noise", wide, boxOf(-5, -1, 5, 1), void, void},
		{"nothing left by Noise", wide, boxOf(0, 0, 1, 1), void, void},
		{"nothing left by large Noise", large, box, void, void},
		{"a line left by large Noise", large, boxOf(-6, -5, 6, 5), void, void},
		{"a thin strip left by large Noise", large, boxOf(-7, -5, 6, 5), boxOf(-2, -4, 1, 4), boxOf(-2, -4, 1, 4)},
		{"nothing left of the frame", changed(along, func(r *impl.Room) { r.Noise = frame }), frame, void, void},
		{"driven out of the frame", out, boxOf(0, 0, 10, 10), void, void},
		{"mapped out of the frame", half, boxOf(510, 0, 600, 10), void, void},
		{"a line left in the frame", half, boxOf(500, 0, 600, 10), void, void},
		{"a strip left in the frame", half, boxOf(499, 0, 600, 10), boxOf(998, 2, 1000, 18), void},
		// The state 501, 0 is mapped out of the frame, and an input would lead it back.
		{"no way back into the frame", double, frame, impl.Region{Halves: []impl.Half{{A: 1, C: 500}, {B: 2, C: 999}, {A: -1, C: 500}, {B: -2, C: 999}}},
			impl.Region{Halves: []impl.Half{{A: 1, C: 500}, {B: 2, C: 999}, {A: -1, C: 500}, {B: -2, C: 999}}}},
		// No disturbance leads out of p from 1004, 0 either, but that lies outside the frame.
		{"robust outside the frame", changed(along, func(r *impl.Room) { r.Noise = boxOf(-12, -1, -10, 1) }), boxOf(980, -5, 1000, 5), boxOf(991, -4, 1000, 4), boxOf(991, -4, 1000, 4)},
		{"a strip of the frame", changed(along, func(r *impl.Room) { r.Noise = boxOf(-999, -1, 999, 1) }), frame, boxOf(-2, -999, 2, 999), boxOf(-2, -999, 2, 999)},
	}
}

func TestPreAndKeepRegion(t *testing.T) {
	for _, c := range append(stepCases(), edgeCases()...) {
		for _, p := range []impl.Region{c.p, c.pre, c.keep} {
			if !validRoomByBig(c.r) || !validRegionByBig(p) {
				t.Errorf("%s: not valid", c.name)
			}
		}
		checkPre(t, c.name, c.r, c.p, c.pre, true)
		checkKeep(t, c.name, c.r, c.p, c.keep, true)
		// Limits do not count.
		r := changed(c.r, func(r *impl.Room) { r.Limits = boxOf(700, 700, 701, 701) })
		checkPre(t, c.name, r, c.p, c.pre, true)
		checkKeep(t, c.name, r, c.p, c.keep, true)
		// The cases also show that the calculation used for the sweeps is right.
		got, ok := preByBig(c.r, c.p)
		checkRegion(t, "preByBig: "+c.name, c, got, ok, c.pre, true)
		got, ok = keepByBig(c.r, c.p)
		checkRegion(t, "keepByBig: "+c.name, c, got, ok, c.keep, true)
	}
}

func TestVoidRegionsAreKept(t *testing.T) {
	for _, void := range voidRegions() {
		for _, r := range goodRooms() {
			checkPre(t, "void", r, void, impl.Region{}, true)
			checkKeep(t, "void", r, void, impl.Region{}, true)
			checkKept(t, "void", r, void, true)
			checkHeld(t, "void", r, impl.Spot{D: 1}, impl.CentreInput(r), void, false)
		}
	}
}

func TestPreOfWrongRooms(t *testing.T) {
	list := append(voidRegions(), boxOf(-1, -1, 1, 1), boxOf(-30, -40, 50, 60), impl.Region{Halves: frameList()}, lattice(40, 300, 5), wrongRegions()[0])
	for _, r := range wrongRooms() {
		for _, p := range list {
			checkRefused(t, "room not valid", r, p)
		}
		checkRefused(t, "room not valid", r, r.Limits)
		checkRefused(t, "room not valid", r, r.Noise)
	}
}

func TestPreOfWrongRegions(t *testing.T) {
	list := append(wrongRegions(), boxOf(0, 0, 0, 0), boxOf(1, 0, 0, 1), boxOf(-1, -1, 1001, 1), impl.Region{Halves: make([]impl.Half, 100000)})
	for _, p := range list {
		for _, r := range []impl.Room{someRoom(), plainRoom(0, 0), plainRoom(1, 0), halvingRoom()} {
			checkRefused(t, "region not valid", r, p)
		}
	}
}

func TestPreOfRoomsAtTheirLimits(t *testing.T) {
	list := []impl.Region{boxOf(-30, -40, 50, 60), {Halves: frameList()}, {Halves: triangleAnd()}, fractions()}
	for _, r := range goodRooms() {
		for _, p := range append(list, r.Limits) {
			checkRegionsByBig(t, "room at its limits", r, p)
		}
	}
}

// grownBy1 returns the region that is p again once it is eroded by the box from -1, -1 to 1, 1.
func grownBy1(p impl.Region) impl.Region {
	var halves []impl.Half
	for _, h := range p.Halves {
		more, _ := halfByRat(h.A, h.B, whole(h.C+max(h.A, -h.A)+max(h.B, -h.B)))
		halves = append(halves, more)
	}
	return regionOf(halves...)
}

type failCase struct {
	name string
	r    impl.Room
	p    impl.Region
	// step is the first one of the three that fails, or 3 if none does.
	step int
}

// halfCases have resulting half planes at their limits and beyond them.
func halfCases() []failCase {
	cut := func(a int, b int, c int) impl.Region {
		return regionOf(boxAnd(-5, -5, 5, 5, impl.Half{A: a, B: b, C: c})...)
	}
	far := func(a int, b int, c int) impl.Region { return regionOf(impl.Half{A: a, B: b, C: c}) }
	noisy := func(noise ...impl.Half) impl.Room {
		return changed(plainRoom(0, 0), func(r *impl.Room) { r.Noise = regionOf(noise...) })
	}
	ranged := func(bx int, by int, low int, high int) impl.Room {
		return changed(plainRoom(bx, by), func(r *impl.Room) { r.Low, r.High = low, high })
	}
	mapped := func(div int, m ...int) impl.Room {
		return changed(plainRoom(0, 0), func(r *impl.Room) { r.Map, r.Div = m, div })
	}
	upright := func(n int) []impl.Half { return boxAnd(-1, -1, 1, 1, impl.Half{A: n, C: 1}) }
	low := func(c int) []impl.Half { return boxAnd(-1000, -1000, -500, -500, impl.Half{A: 33333, B: 33333, C: c}) }
	const a, b = maxCoef, maxCoef - 1
	return []failCase{
		{"Noise: A at the limit", noisy(upright(3125)...), cut(16, 1, 3), 3},
		{"Noise: A beyond the limit", noisy(upright(16667)...), cut(3, 1, 3), 0},
		{"Noise: C at the limit", noisy(low(-50000500)...), far(1, 1, 1500), 3},
		{"Noise: C beyond the limit", noisy(low(-50000501)...), far(1, 1, 1500), 0},
		{"Noise: A beyond the limit with nothing left", noisy(impl.Half{A: 16667, C: 1}), cut(3, 1, 3), 0},
		{"inputs: C at the limit", ranged(1, 1, -1000, -1000), far(a, b, 1000+a+b), 3},
		{"inputs: C beyond the limit", ranged(1, 1, -1000, -1000), far(a, b, 1001+a+b), 1},
		{"inputs: C at the limit by the drive the other way", ranged(-1, -1, 1000, 1000), far(a, b, 1000+a+b), 3},
		{"inputs: C beyond the limit by the drive the other way", ranged(-1, -1, 1000, 1000), far(a, b, 1001+a+b), 1},
		{"inputs: C beyond the limit at the lower end", ranged(1, 1, -1000, 3), far(a, b, 1001+a+b), 1},
		{"inputs: C far beyond the limit", ranged(100, 100, -1000, 1000), far(a, b, 7), 1},
		{"inputs: C at the limit downwards", ranged(1, 1, 1000, 1000), far(a, b, a+b-1000), 3},
		{"inputs: C beyond the limit with nothing left", ranged(1, 1, 1000, 1000), far(a, b, a+b-1001), 1},
		{"inputs: B of an added half plane at the limit", ranged(1, 0, 0, 1), grownBy1(peak(25000)), 3},
		{"inputs: B of an added half plane beyond the limit", ranged(1, 0, 0, 1), grownBy1(peak(25001)), 1},
		{"inputs: B of an added half plane beyond the limit by no input", ranged(1, 0, 0, 0), grownBy1(peak(25001)), 1},
		{"inputs: no half plane added", ranged(0, 0, 0, 1), grownBy1(peak(25001)), 3},
		{"map: A at the limit", mapped(1, 20, 0, 0, 20), far(2500, 1, 3), 3},
		{"map: A beyond the limit", mapped(1, 20, 0, 0, 20), far(2501, 1, 3), 2},
		{"map: B at -1 times the limit", mapped(1, 20, 0, 0, 20), far(1, -2500, 3), 3},
		{"map: B beyond -1 times the limit", mapped(1, 20, 0, 0, 20), far(1, -2501, 3), 2},
		{"map: A beyond the limit but for a common divisor", mapped(20, 20, 0, 0, 20), far(2501, 1, 3), 3},
		{"map: C at the limit", mapped(20, 1, 0, 0, 1), far(5200, 1, 5201+5000000), 3},
		{"map: C beyond the limit", mapped(20, 1, 0, 0, 1), far(5200, 1, 5201+5000001), 2},
		{"map: C at the lower limit", mapped(20, 1, 0, 0, 1), far(5200, 1, 5201-5000000), 3},
		{"map: C beyond the limit with nothing left", mapped(20, 1, 0, 0, 1), far(5200, 1, 5201-5000001), 2},
	}
}

// countCases have results at the greatest number of edges and beyond it. In all of them the frame cuts one corner of
// a lattice off and so adds an edge, or would do so one step farther to the right.
func countCases() []failCase {
	moved := changed(plainRoom(0, 0), func(r *impl.Room) { r.Noise = boxOf(-2, -1, -1, 1) })
	driven := changed(plainRoom(5, 7), func(r *impl.Room) { r.Low, r.High = -1, 0 })
	halved := changed(plainRoom(5, 7), func(r *impl.Room) { r.Div, r.Low, r.High = 2, -1, 0 })
	var list []failCase
	add := func(name string, r impl.Room, n int, x int, step int) {
		list = append(list, failCase{name, r, lattice(n, x, 3), step})
	}
	add("Noise: 40 edges", moved, 39, 1000, 1)
	add("Noise: 41 edges", moved, 40, 1000, 0)
	add("Noise: 40 edges within the frame", moved, 40, 900, 1)
	for _, r := range []impl.Room{plainRoom(0, 0), plainRoom(1, 0), plainRoom(0, 1), plainRoom(5, 7)} {
		add("inputs: 38 edges", r, 38, 500, 3)
		add("inputs: 39 edges", r, 39, 500, 1)
		add("inputs: 40 edges", r, 40, 500, 1)
	}
	add("inputs: 40 edges after them", driven, 38, 990, 3)
	add("inputs: 41 edges after them", driven, 38, 999, 1)
	add("map: 40 edges after it", halved, 38, 490, 3)
	add("map: 41 edges after it", halved, 38, 499, 2)
	return list
}

func TestPreStepsFail(t *testing.T) {
	for _, c := range append(halfCases(), countCases()...) {
		if !validRoomByBig(c.r) || len(c.p.Halves) == 0 || !validRegionByBig(c.p) {
			t.Errorf("%s: not valid", c.name)
		}
		robust, first := robustByBig(c.r, c.p)
		grown, second := growByBig(robust, c.r.Bx, c.r.By, c.r.Low, c.r.High)
		_, third := pullByBig(grown, c.r.Map, c.r.Div)
		if done := []bool{first, first && second, first && second && third}; !slices.Equal(done, []bool{c.step > 0, c.step > 1, c.step > 2}) {
			t.Errorf("%s: the steps are %v", c.name, done)
		}
		checkRobust(t, c.name, c.r, c.p, robust, c.step > 0)
		if _, ok := checkRegionsByBig(t, c.name, c.r, c.p); ok != (c.step > 2) {
			t.Errorf("%s: %v", c.name, ok)
		}
		// Wide limits leave the steps as the only reason.
		r := changed(c.r, func(r *impl.Room) { r.Limits = impl.Region{Halves: frameList()} })
		checkKept(t, c.name, r, c.p, keptByBig(r, c.p))
		if c.step < 3 {
			checkKept(t, c.name, r, c.p, false)
		}
	}
}

func TestPreNumberOfEdges(t *testing.T) {
	for _, c := range countCases() {
		if c.step != 3 {
			continue
		}
		got, _ := impl.PreRegion(c.r, c.p)
		if want := 38 + 2*min(1, c.r.Bx*c.r.By); len(got.Halves) < want {
			t.Errorf("%s: %d edges", c.name, len(got.Halves))
		}
	}
	// This Noise is as long as four edges of p, which vanish, so that the inputs may add two.
	p := lattice(40, 300, 5)
	r := changed(plainRoom(5, 7), func(r *impl.Room) {
		r.Noise = regionOf(boxAnd(-30, 0, 10, 10, impl.Half{A: 1, B: 3, C: 10}, impl.Half{A: -1, B: -3})...)
	})
	robust, _ := impl.RobustPart(r, p)
	if pre, ok := checkRegionsByBig(t, "edges lost", r, p); !ok || len(robust.Halves) != 36 || len(pre.Halves) != 38 {
		t.Errorf("%d edges, then %d", len(robust.Halves), len(pre.Halves))
	}
	checkKeep(t, "edges lost, but too many to meet", r, p, impl.Region{}, false)
}

// meetRoom has the whole frame as PreRegion of any region around the origin that is not small.
func meetRoom() impl.Room {
	return changed(plainRoom(0, 0), func(r *impl.Room) { r.Div, r.Limits = 20, impl.Region{Halves: frameList()} })
}

// ring returns a region with n edges, 19 or 20, which are all 30 times as long as its short directions.
func ring(n int) impl.Region {
	list := []impl.Half{{A: 1, B: 3}, {A: 1, B: -3}}
	// All edges together have to lead back to the first corner.
	if n == 19 {
		list = append(list, impl.Half{A: -3, B: 1}, impl.Half{A: 1, B: -1})
	} else {
		list = append(list, impl.Half{A: -1, B: -3}, impl.Half{A: -1, B: 3})
	}
	for a := -2; a <= 2; a++ {
		for b := -2; b <= 2; b++ {
			if impl.GcdOf(a, b) == 1 {
				list = append(list, impl.Half{A: a, B: b})
			}
		}
	}
	slices.SortFunc(list, compareAngles)
	x, y := 200, -50
	for i, d := range list {
		list[i].C = d.A*x + d.B*y
		x, y = x-30*d.B, y+30*d.A
	}
	return regionOf(list...)
}

func TestKeepRegionNumberOfHalves(t *testing.T) {
	frame := impl.Region{Halves: frameList()}
	for n := 35; n <= 38; n++ {
		p := impl.Region{Halves: roundHalves(n, 500, 0)}
		checkPre(t, "round", meetRoom(), p, frame, true)
		// The meet would be p, however many half planes there are.
		if n+4 <= maxHalves {
			checkKeep(t, "round", meetRoom(), p, p, true)
		} else {
			checkKeep(t, "too many to meet", meetRoom(), p, impl.Region{}, false)
		}
		checkKept(t, "round", meetRoom(), p, true)
	}
	for n := 39; n <= 40; n++ {
		p := impl.Region{Halves: roundHalves(n, 500, 0)}
		checkRegionsByBig(t, "too many to grow", meetRoom(), p)
		checkKept(t, "too many to grow", meetRoom(), p, false)
	}
	// A cut corner leaves the direction -1, 0 free, which the drive then adds.
	single := regionOf(append(roundHalves(19, 500, 0), impl.Half{A: -1, B: 3, C: 1560})...)
	for _, c := range []struct {
		r      impl.Room
		p      impl.Region
		number int
	}{
		{plainRoom(0, 0), impl.Region{Halves: roundHalves(20, 500, 0)}, 40},
		{plainRoom(0, 0), impl.Region{Halves: roundHalves(21, 500, 0)}, 42},
		{plainRoom(5, 7), ring(19), 40},
		{plainRoom(0, 1), single, 41},
		{plainRoom(0, 0), single, 40},
		{plainRoom(5, 7), ring(20), 42},
	} {
		pre, ok := checkRegionsByBig(t, "both round", c.r, c.p)
		if !ok || len(c.p.Halves)+len(pre.Halves) != c.number {
			t.Errorf("%d and %d half planes", len(c.p.Halves), len(pre.Halves))
		}
		if _, ok := impl.KeepRegion(c.r, c.p); ok != (c.number <= maxHalves) {
			t.Errorf("%d half planes: %v", c.number, ok)
		}
	}
	// Nothing is left, and nothing has no half planes to add to the 40 of p.
	for n := 38; n <= 40; n++ {
		p := lattice(n, 300, 5)
		r := changed(plainRoom(1, 0), func(r *impl.Room) { r.Noise = p })
		checkPre(t, "40 and none", r, p, impl.Region{}, true)
		checkKeep(t, "40 and none", r, p, impl.Region{}, true)
		checkKept(t, "40 and none", r, p, false)
	}
}

type keptCase struct {
	name string
	r    impl.Room
	p    impl.Region
	want bool
}

func keptCases() []keptCase {
	r := halvingRoom()
	within := func(p impl.Region) impl.Room { return changed(r, func(r *impl.Room) { r.Limits = p }) }
	weak := changed(r, func(r *impl.Room) { r.Low, r.High = 0, 0 })
	still := changed(plainRoom(0, 0), func(r *impl.Room) { r.Div = 2 })
	strip := impl.Region{Halves: []impl.Half{{A: 1000, C: 999}, {B: 1, C: 5}, {A: -1, C: 1}, {B: -1, C: 5}}}
	above := changed(r, func(r *impl.Room) { r.Noise = boxOf(-1, 1, 1, 2) })
	return []keptCase{
		{"Limits", r, r.Limits, true},
		{"a part of Limits", r, boxOf(-3, -4, 2, 5), true},
		{"a part of Limits at their corner", r, boxOf(2, 1, 5, 9), false},
		{"the least part of Limits", r, boxOf(-1, -2, 1, 2), false},
		{"a small part of Limits", r, impl.Region{Halves: []impl.Half{{A: 1, C: 1}, {B: 1, C: 2}, {A: -1, C: 1}, {B: -1, C: 2}}}, false},
		{"a part of Limits that is just wide enough", within(boxOf(-9, -9, 9, 9)), boxOf(-1, -3, 2, 3), true},
		{"a part of Limits that is not high enough", r, boxOf(-5, -2, 5, 1), false},
		{"a part of Limits that is just high enough", r, boxOf(-5, -2, 5, 2), true},
		{"a part of Limits that is too low by a little", r, impl.Region{Halves: []impl.Half{{A: 1, C: 5}, {B: 1, C: 2}, {A: -1, C: 5}, {B: -100, C: 199}}}, false},
		{"a part of Limits and no disturbance leads out of a line", r, strip, false},
		{"a triangle", still, impl.Region{Halves: []impl.Half{{A: 1, B: 1, C: 4}, {A: -1, C: 2}, {B: -1, C: 2}}}, true},
		{"a triangle that is a little less", still, impl.Region{Halves: []impl.Half{{A: 2, B: 2, C: 7}, {A: -1, C: 2}, {B: -1, C: 2}}}, false},
		{"out of Limits", r, boxOf(-6, -9, 6, 9), false},
		{"out of Limits to the left", r, boxOf(-6, -9, 5, 9), false},
		{"out of Limits upwards", r, boxOf(-5, -9, 5, 10), false},
		{"out of Limits by a little", r, impl.Region{Halves: []impl.Half{{A: 1000, C: 5001}, {B: 1, C: 9}, {A: -1, C: 5}, {B: -1, C: 9}}}, false},
		{"beside Limits", r, boxOf(6, -9, 16, 9), false},
		{"the same within wider Limits", within(boxOf(-6, -9, 6, 9)), boxOf(-6, -9, 6, 9), true},
		{"the frame within the frame", within(impl.Region{Halves: frameList()}), impl.Region{Halves: frameList()}, true},
		{"the frame", r, impl.Region{Halves: frameList()}, false},
		{"within Limits and not kept", weak, boxOf(-5, -9, 5, 9), false},
		{"a part of Limits that is not kept", weak, boxOf(-3, -3, 3, 3), false},
		{"kept without inputs", still, boxOf(-5, -5, 5, 5), true},
		{"kept without inputs at the border", still, boxOf(-2, -2, 2, 2), true},
		{"not kept without inputs", still, boxOf(-1, -2, 2, 2), false},
		{"kept with Noise on one side", above, boxOf(-5, 0, 5, 5), true},
		{"kept with Noise on one side at the border", above, boxOf(-5, 2, 5, 4), true},
		{"not kept with Noise on one side", above, boxOf(-5, -9, 5, 3), false},
		{"Noise", r, r.Noise, false},
		{"void", r, impl.Region{}, true},
		{"void in a weak room", weak, impl.Region{}, true},
		{"void in a room without a divisor", changed(r, func(r *impl.Room) { r.Div = 0 }), impl.Region{}, false},
		{"void in a room without Noise", changed(r, func(r *impl.Room) { r.Noise = impl.Region{} }), impl.Region{}, false},
		{"void in a room without Limits", within(impl.Region{}), impl.Region{}, false},
		{"void in no room", impl.Room{}, impl.Region{}, false},
	}
}

func TestIsKept(t *testing.T) {
	for _, c := range keptCases() {
		checkKept(t, c.name, c.r, c.p, c.want)
		// The cases also show that the calculation used for the sweeps is right.
		if keptByBig(c.r, c.p) != c.want {
			t.Errorf("keptByBig: %s is not %v", c.name, c.want)
		}
	}
}

// Every kept box lies within each round of KeepRegion that begins with Limits, and the last round is kept itself.
func TestKeptRegionIsTheGreatest(t *testing.T) {
	aslant := impl.Room{Map: []int{1, 1, -1, 1}, Div: 2, Bx: 1, By: 1, Low: -1, High: 1, Noise: impl.Region{Halves: diamond(1)}, Limits: boxOf(-4, -4, 4, 4)}
	for _, r := range []impl.Room{changed(halvingRoom(), func(r *impl.Room) { r.Limits = boxOf(-4, -4, 4, 4) }), aslant} {
		rounds := []impl.Region{r.Limits}
		for range 20 {
			next, ok := impl.KeepRegion(r, rounds[len(rounds)-1])
			if !ok {
				t.Fatalf("%v has no round %d", r, len(rounds))
			}
			rounds = append(rounds, next)
		}
		last := rounds[len(rounds)-1]
		if len(last.Halves) == 0 || !slices.Equal(last.Halves, rounds[len(rounds)-2].Halves) {
			t.Errorf("%v ends with %v", r, last)
		}
		checkKept(t, "the last round", r, last, true)
		kept := 0
		for _, box := range boxesWithin(4) {
			if !impl.IsKept(r, box) {
				continue
			}
			kept++
			for _, round := range rounds {
				if !withinByBig(box, round) {
					t.Errorf("%v is kept, but does not lie in %v", box, round)
				}
			}
		}
		if kept < 3 {
			t.Errorf("only %d boxes are kept in %v", kept, r)
		}
	}
}

func boxesWithin(most int) []impl.Region {
	var list []impl.Region
	for x0 := -most; x0 < most; x0++ {
		for x1 := x0 + 1; x1 <= most; x1++ {
			for y0 := -most; y0 < most; y0++ {
				for y1 := y0 + 1; y1 <= most; y1++ {
					list = append(list, boxOf(x0, y0, x1, y1))
				}
			}
		}
	}
	return list
}

type heldCase struct {
	name string
	r    impl.Room
	s    impl.Spot
	u    impl.Ratio
	p    impl.Region
	want bool
}

func heldCases() []heldCase {
	along, still, box, zero := plainRoom(1, 0), plainRoom(0, 0), boxOf(-9, -9, 9, 9), impl.Ratio{D: 1}
	frame, origin := impl.Region{Halves: frameList()}, impl.Spot{D: 1}
	noisy := func(n int) impl.Room {
		return changed(along, func(r *impl.Room) { r.Noise = regionOf(boxAnd(-1, -1, 1, 1, impl.Half{A: n, C: 1})...) })
	}
	wide := changed(along, func(r *impl.Room) { r.Low, r.High = -1000, 1000 })
	only := changed(along, func(r *impl.Room) { r.Low, r.High = 1, 1 })
	some := someRoom()
	one, minusOne, half := impl.Ratio{N: 1, D: 1}, impl.Ratio{N: -1, D: 1}, impl.Ratio{N: 1, D: 2}
	return []heldCase{
		{"inside", along, impl.Spot{X: 3, Y: -4, D: 1}, half, box, true},
		{"fractions inside", some, impl.Spot{X: 1, Y: 2, D: 3}, impl.Ratio{N: -1, D: 2}, boxOf(-10, -1, 10, 10), true},
		{"on the border to the right", along, impl.Spot{X: 8, D: 1}, zero, box, true},
		{"on the border above", along, impl.Spot{Y: 8, D: 1}, zero, box, true},
		{"on the border by the input", along, impl.Spot{X: 9, D: 1}, minusOne, box, true},
		{"on the border by a fraction", along, impl.Spot{X: -15, D: 2}, impl.Ratio{N: -1, D: 2}, box, true},
		{"on the border of a slope", along, impl.Spot{X: 1, Y: 1, D: 1}, zero, impl.Region{Halves: []impl.Half{{A: 1, B: 1, C: 4}, {A: -1}, {B: -1}}}, true},
		{"beyond a slope", along, impl.Spot{X: 1, Y: 1, D: 1}, impl.Ratio{N: 1, D: 1000}, impl.Region{Halves: []impl.Half{{A: 1, B: 1, C: 4}, {A: -1}, {B: -1}}}, false},
		{"beyond the border for some corners", along, impl.Spot{X: 8, D: 1}, half, box, false},
		{"beyond the border by the least input", along, impl.Spot{X: 8, D: 1}, impl.Ratio{N: 1, D: 1000}, box, false},
		{"beyond the lower border by the least input", along, impl.Spot{X: -8, D: 1}, impl.Ratio{N: -1, D: 1000}, box, false},
		{"beyond the border by the least state", along, impl.Spot{X: 800001, D: maxStateDen}, zero, box, false},
		{"beyond the upper border by the least state", along, impl.Spot{Y: 800001, D: maxStateDen}, zero, box, false},
		{"beyond the border for all corners", along, impl.Spot{X: 20, D: 1}, zero, box, false},
		{"a state outside p that is led into it", along, impl.Spot{X: 10, D: 1}, minusOne, boxOf(8, -9, 10, 9), true},
		{"a state on the other side of p", wide, impl.Spot{X: 100, D: 1}, impl.Ratio{N: -105, D: 1}, box, true},
		{"a region beyond Limits", along, impl.Spot{X: 100, Y: 100, D: 1}, half, boxOf(99, 99, 102, 101), true},
		{"the frame", along, impl.Spot{X: 998, Y: 999, D: 1}, one, frame, true},
		{"out of the frame", along, impl.Spot{X: 999, Y: 999, D: 1}, one, frame, false},
		{"out of the frame upwards", along, impl.Spot{X: 998, Y: 1000, D: 1}, one, frame, false},
		{"out of the frame and back", wide, impl.Spot{X: 1000, Y: 0, D: 1}, impl.Ratio{N: -1, D: 1}, frame, true},
		{"at High", along, origin, one, box, true},
		{"at Low", along, origin, minusOne, box, true},
		{"above High", along, origin, impl.Ratio{N: 1001, D: 1000}, box, false},
		{"below Low", along, origin, impl.Ratio{N: -1001, D: 1000}, box, false},
		{"far above High", along, origin, impl.Ratio{N: 2, D: 1}, box, false},
		{"far below Low", along, origin, impl.Ratio{N: -2, D: 1}, box, false},
		{"above High without a drive", still, origin, impl.Ratio{N: 3, D: 2}, box, false},
		{"below Low without a drive", still, origin, impl.Ratio{N: -3, D: 2}, box, false},
		{"the only input", only, origin, one, box, true},
		{"not the only input", only, origin, zero, box, false},
		{"below the only input", only, origin, impl.Ratio{N: 999, D: 1000}, box, false},
		{"above the only input", only, origin, impl.Ratio{N: 1001, D: 1000}, box, false},
		{"the greatest input", wide, impl.Spot{X: -1000, D: 1}, impl.Ratio{N: 1000, D: 1}, box, true},
		{"the least input", wide, impl.Spot{X: 1000, D: 1}, impl.Ratio{N: -1000, D: 1}, box, true},
		{"D of s at its limit", along, impl.Spot{X: 1, Y: 1, D: maxStateDen}, zero, box, true},
		{"D of s beyond its limit", along, impl.Spot{X: 1, Y: 1, D: maxStateDen + 1}, zero, box, false},
		{"D of s far beyond its limit", along, impl.Spot{X: 1, Y: 1, D: maxDen}, zero, box, false},
		{"D of u at its limit", along, origin, impl.Ratio{N: 999, D: maxInputDen}, box, true},
		{"D of u beyond its limit", along, origin, impl.Ratio{N: 999, D: maxInputDen + 1}, box, false},
		{"D of u beyond its limit without a drive", still, origin, impl.Ratio{N: 1, D: maxInputDen + 1}, box, false},
		{"D of u far beyond its limit", along, origin, impl.Ratio{N: 1, D: maxDiv}, box, false},
		{"D of a corner of Noise at its limit", noisy(maxNoiseDen), origin, zero, box, true},
		{"D of a corner of Noise beyond its limit", noisy(maxNoiseDen + 1), origin, zero, box, false},
		{"D of the next state within its limit", noisy(641), impl.Spot{X: 1, Y: 1, D: 26088}, impl.Ratio{N: 1, D: 299}, box, true},
		{"D of the next state beyond its limit", noisy(247), impl.Spot{X: 1, Y: 1, D: 52579}, impl.Ratio{N: 1, D: 385}, box, false},
		{"a void region", along, origin, zero, impl.Region{}, false},
		{"an empty region", along, origin, zero, impl.Region{Halves: []impl.Half{}}, false},
		{"a region that lies in one line", along, origin, zero, boxOf(-9, 0, 9, 0), false},
		{"a region without one of its edges", along, origin, zero, impl.Region{Halves: boxAnd(-9, -9, 9, 9)[1:]}, false},
		{"a region with an edge that is not needed", along, origin, zero, impl.Region{Halves: boxAnd(-9, -9, 9, 9, impl.Half{A: 1, B: -1, C: 20})}, false},
		{"no state", along, impl.Spot{}, zero, box, false},
		{"a state not in lowest terms", along, impl.Spot{X: 2, Y: 2, D: 2}, zero, box, false},
		{"no input", along, origin, impl.Ratio{}, box, false},
		{"an input not in lowest terms", along, origin, impl.Ratio{N: 2, D: 4}, box, false},
		{"no room", impl.Room{}, origin, zero, box, false},
	}
}

func TestIsHeld(t *testing.T) {
	for _, c := range heldCases() {
		checkHeld(t, c.name, c.r, c.s, c.u, c.p, c.want)
		// The cases also show that the calculation used for the sweeps is right.
		if heldByBig(c.r, c.s, c.u, c.p) != c.want {
			t.Errorf("heldByBig: %s is not %v", c.name, c.want)
		}
	}
}

func TestIsHeldInvalid(t *testing.T) {
	s, u, frame := impl.Spot{X: 1, Y: 2, D: 3}, impl.Ratio{N: 1, D: 2}, impl.Region{Halves: frameList()}
	for _, r := range []impl.Room{someRoom(), plainRoom(0, 0), plainRoom(1, 0)} {
		checkHeld(t, "valid", r, s, u, frame, true)
		for _, bad := range invalidSpots() {
			checkHeld(t, "state not valid", r, bad, u, frame, false)
		}
		for _, bad := range invalidRatios() {
			checkHeld(t, "input not valid", r, s, bad, frame, false)
		}
		for _, bad := range append(wrongRegions(), impl.Region{Halves: make([]impl.Half, 100000)}) {
			checkHeld(t, "region not valid", r, s, u, bad, false)
		}
		for _, n := range edgeInts() {
			for _, m := range []int{-1, 0, 1, 2} {
				for _, bad := range []impl.Spot{{X: n, Y: m, D: 1}, {X: m, Y: n, D: 1}, {X: 1, Y: m, D: n}} {
					checkHeld(t, "state", r, bad, u, frame, heldByBig(r, bad, u, frame))
				}
				for _, bad := range []impl.Ratio{{N: n, D: m}, {N: m, D: n}} {
					checkHeld(t, "input", r, s, bad, frame, heldByBig(r, s, bad, frame))
				}
			}
		}
	}
}

// Only one corner of Noise leads out of p, whichever it is.
func TestIsHeldForAllCornersOfNoise(t *testing.T) {
	for _, noise := range []impl.Region{{Halves: triangleAnd()}, boxOf(-1, -2, 3, 4), {Halves: diamond(3)}, lattice(38, 100, 5), lattice(40, 300, -7)} {
		r := changed(plainRoom(0, 0), func(r *impl.Room) { r.Noise = noise })
		for i, s := range orderedCorners(noise) {
			g, h := noise.Halves[i], noise.Halves[(i+1)%len(noise.Halves)]
			a, b := g.A+h.A, g.B+h.B
			// All corners are whole, so the others are at least 1 less in this direction.
			reach := a*s.X + b*s.Y
			for _, less := range []int{0, 1} {
				edge, ok := halfByRat(a, b, whole(reach-less))
				if !ok {
					t.Errorf("%v has no edge at %v", noise, s)
				}
				checkHeld(t, "one corner out", r, impl.Spot{D: 1}, impl.Ratio{D: 1}, regionOf(edge), less == 0)
			}
		}
	}
}

// ends are those of the inputs that lead a point into half planes.
type ends struct {
	least *big.Rat
	most  *big.Rat
}

func (e ends) have(u *big.Rat) bool {
	return e.least.Cmp(u) <= 0 && u.Cmp(e.most) <= 0
}

// narrowed leaves those inputs that lead from a mapped point into all half planes. If there is none, least is greater than most.
func (e ends) narrowed(r impl.Room, from point, halves []impl.Half) ends {
	for _, h := range halves {
		slope := h.A*r.Bx + h.B*r.By
		rest := new(big.Rat).Sub(whole(h.C), from.along(h.A, h.B))
		if slope == 0 {
			if rest.Sign() < 0 {
				return ends{whole(1), whole(0)}
			}
			continue
		}
		end := rest.Quo(rest, whole(slope))
		if slope > 0 && end.Cmp(e.most) < 0 {
			e.most = end
		} else if slope < 0 && end.Cmp(e.least) > 0 {
			e.least = end
		}
	}
	return e
}

// admittedByBig returns the ends of the inputs with which all corners of Noise lead from s into p.
func admittedByBig(r impl.Room, p impl.Region, s point) ends {
	e, image := ends{whole(r.Low), whole(r.High)}, mapByBig(s, r.Map, r.Div)
	for _, corner := range pointsOf(orderedCorners(r.Noise)) {
		next := e.narrowed(r, image.plus(1, corner), p.Halves)
		if next.least.Cmp(next.most) > 0 {
			return next
		}
		e = next
	}
	return e
}

// sweepRoom returns a room that often leaves something of a region.
func sweepRoom(source *rand.Rand) impl.Room {
	r := anyRoom(source)
	if source.IntN(3) > 0 {
		r.Map, r.Div = []int{2 - source.IntN(5), 1 - source.IntN(3), 1 - source.IntN(3), 3}, 1+source.IntN(4)
		r.Bx, r.By = source.IntN(7)-3, source.IntN(7)-3
	}
	if r.Map[0]*r.Map[3] == r.Map[1]*r.Map[2] {
		r.Map = []int{0, 1, -1, 0}
	}
	r.Low = source.IntN(6) - 4
	r.High = r.Low + source.IntN(5)
	noises := []impl.Region{boxOf(-1, -1, 1, 1), boxOf(0, -1, 1, 0), boxOf(2, 1, 3, 3), {Halves: diamond(2)}, {Halves: triangleAnd()}, fractions(), boxOf(-9, -8, 7, 9)}
	r.Noise = noises[source.IntN(len(noises))]
	return r
}

func TestPreSweep(t *testing.T) {
	source := rand.New(rand.NewPCG(9, 1))
	refused, void, left, kept := 0, 0, 0, 0
	for _, p := range movable(33, 40) {
		for k := range 3 {
			r := sweepRoom(source)
			if k == 0 {
				r.Map, r.Div, r.Limits = []int{1, 0, 0, 1}, 2, p
			}
			want, wantOk := checkRegionsByBig(t, "sweep", r, p)
			switch {
			case !wantOk:
				refused++
			case len(want.Halves) == 0:
				void++
			default:
				left++
			}
			if keptByBig(r, p) {
				kept++
			}
		}
	}
	if refused < 100 || void < 100 || left < 100 || kept < 10 {
		t.Errorf("%d refused, %d void, %d left, %d kept", refused, void, left, kept)
	}
}

// A state belongs to PreRegion exactly if it is mapped into the frame and an input leads from there into the frame, and from
// there all disturbances into p.
func TestPreRegionHasItsPoints(t *testing.T) {
	source := rand.New(rand.NewPCG(9, 2))
	frame := frameList()
	tested := 0
	for _, p := range movable(34, 10) {
		for range 4 {
			r := sweepRoom(source)
			got, ok := impl.PreRegion(r, p)
			if !ok {
				continue
			}
			tested += checkPoints(t, "PreRegion", []any{r, p}, got, func(s point) bool {
				image := mapByBig(s, r.Map, r.Div)
				e := admittedByBig(r, p, s).narrowed(r, image, frame)
				return image.liesIn(frame) && e.least.Cmp(e.most) <= 0
			})
			keep, ok := impl.KeepRegion(r, p)
			if !ok {
				continue
			}
			checkPoints(t, "KeepRegion", []any{r, p}, keep, func(s point) bool {
				return s.liesIn(p.Halves) && s.liesIn(got.Halves)
			})
		}
	}
	if tested < 1000 {
		t.Errorf("only %d spots", tested)
	}
}

// inputsNear returns inputs around the ends, as far as IsHeld takes them.
func inputsNear(r impl.Room, e ends) []impl.Ratio {
	list := []impl.Ratio{{N: r.Low, D: 1}, {N: r.High, D: 1}, {N: 7*r.Low - 1, D: 7}, {N: 7*r.High + 1, D: 7}, impl.CentreInput(r)}
	for _, end := range []*big.Rat{e.least, e.most} {
		if u, ok := ratioOfRat(end); ok && u.D <= maxInputDen {
			list = append(list, u)
		}
		// The neighbours with the denominators 1 and 997.
		for _, d := range []int{1, 997} {
			n, _ := new(big.Rat).Mul(end, whole(d)).Float64()
			for i := -1; i <= 1; i++ {
				list = append(list, impl.RatioOf(int(n)+i, d))
			}
		}
	}
	return list
}

// An input holds a state exactly if it is from Low to High and no corner of Noise leads out of p.
func TestIsHeldExactlyIfAdmitted(t *testing.T) {
	source := rand.New(rand.NewPCG(9, 3))
	held, not, exact := 0, 0, 0
	for _, p := range movable(35, 12) {
		for range 6 {
			r, s := sweepRoom(source), someSpot(source, 30)
			// Often a state that some input leads into p.
			if pre, _ := impl.PreRegion(r, p); len(pre.Halves) > 0 && source.IntN(4) > 0 {
				corners := orderedCorners(pre)
				if near := corners[source.IntN(len(corners))]; near.D <= 1000 {
					s = near
				}
			}
			e := admittedByBig(r, p, pointOf(s))
			for _, u := range inputsNear(r, e) {
				// All denominators are so small that NextSpot does not fail within p.
				want := validByBig(u) && e.have(bigRat(u))
				checkHeld(t, "admitted", r, s, u, p, want)
				switch {
				case !want:
					not++
				case bigRat(u).Cmp(e.least) == 0 || bigRat(u).Cmp(e.most) == 0:
					exact++
				default:
					held++
				}
			}
		}
	}
	if held < 300 || not < 300 || exact < 50 {
		t.Errorf("%d held, %d not, %d at an end", held, not, exact)
	}
}

func TestIsHeldSweep(t *testing.T) {
	source := rand.New(rand.NewPCG(9, 4))
	held := 0
	list := movable(36, 10)
	for range 3000 {
		r, p := sweepRoom(source), list[source.IntN(len(list))]
		s, u := someSpot(source, []int{3, 1000, maxStateDen}[source.IntN(3)]), someInput(source, []int{3, maxInputDen}[source.IntN(2)])
		want := heldByBig(r, s, u, p)
		checkHeld(t, "sweep", r, s, u, p, want)
		if want {
			held++
		}
	}
	if held < 30 {
		t.Errorf("only %d are held", held)
	}
}

// roomRegions are all functions that take a room and a region to another region.
func roomRegions() map[string]func(r impl.Room, p impl.Region) (impl.Region, bool) {
	return map[string]func(r impl.Room, p impl.Region) (impl.Region, bool){
		"robust":         impl.RobustPart,
		"pre":            impl.PreRegion,
		"keep":           impl.KeepRegion,
		"robust, Limits": func(r impl.Room, p impl.Region) (impl.Region, bool) { return impl.RobustPart(r, r.Limits) },
		"pre, Limits":    func(r impl.Room, p impl.Region) (impl.Region, bool) { return impl.PreRegion(r, r.Limits) },
		"keep, Limits":   func(r impl.Room, p impl.Region) (impl.Region, bool) { return impl.KeepRegion(r, r.Limits) },
		"keep, Noise":    func(r impl.Room, p impl.Region) (impl.Region, bool) { return impl.KeepRegion(r, r.Noise) },
	}
}

// argRegions are of every kind, and few.
func argRegions() []impl.Region {
	return []impl.Region{{}, {Halves: []impl.Half{}}, boxOf(-5, -5, 5, 5), boxOf(-5, -2, 5, 2), {Halves: frameList()}, fractions(), {Halves: triangleAnd()}, lattice(38, 300, 5),
		lattice(40, 300, 5), {Halves: roundHalves(36, 500, 0)}, {Halves: boxAnd(-5, -5, 5, 5)[1:]}, boxOf(1, 0, 0, 1), {Halves: []impl.Half{{}}}}
}

// argRooms have results that are p itself, more, less, void, or none.
func argRooms() []impl.Room {
	var list []impl.Room
	for _, c := range append(stepCases(), edgeCases()...) {
		list = append(list, c.r)
	}
	return append(list, meetRoom(), someRoom(), impl.Room{}, changed(someRoom(), func(r *impl.Room) { r.Map = r.Map[:3] }), changed(someRoom(), func(r *impl.Room) { r.Div = 0 }),
		changed(someRoom(), func(r *impl.Room) { r.Noise = impl.Region{} }), changed(someRoom(), func(r *impl.Room) { r.Limits = impl.Region{} }))
}

func TestPreLeavesItsArguments(t *testing.T) {
	s, u := impl.Spot{X: 1, Y: 2, D: 3}, impl.Ratio{N: 1, D: 2}
	for _, r := range argRooms() {
		for _, p := range argRegions() {
			room, region := roomWithSpare(r), impl.Region{Halves: withSpare(p.Halves)}
			clipped, tight := roomClipped(r), impl.Region{Halves: slices.Clip(slices.Clone(p.Halves))}
			for name, call := range roomRegions() {
				got, ok := call(room, region)
				// The spare capacity behind an argument does not count, whatever it holds.
				want, wantOk := call(clipped, tight)
				checkRegion(t, name, []any{r, p}, got, ok, want, wantOk)
			}
			checkKept(t, "spare", room, region, impl.IsKept(clipped, tight))
			checkHeld(t, "spare", room, s, u, region, impl.IsHeld(clipped, s, u, tight))
			if !isRoomUntouched(room, r) || !isUntouched(region.Halves, p.Halves) {
				t.Errorf("%v or %v is changed to %v or %v", r, p, room, region)
			}
		}
	}
}

func TestPreIsNewEachTime(t *testing.T) {
	for name, call := range roomRegions() {
		for _, r := range argRooms() {
			for _, p := range argRegions() {
				room, region := roomWithSpare(r), impl.Region{Halves: withSpare(p.Halves)}
				first, _ := call(room, region)
				second, _ := call(room, region)
				want := slices.Clone(second.Halves)
				scribble(first.Halves)
				if !isRoomUntouched(room, r) || !isUntouched(region.Halves, p.Halves) || !slices.Equal(second.Halves, want) {
					t.Errorf("%s: a result for %v and %v shares memory", name, r, p)
				}
				scribble(region.Halves)
				scribbleEach(room, func() {
					if !slices.Equal(second.Halves, want) {
						t.Errorf("%s: a result for %v and %v shares memory with its argument", name, r, p)
					}
				})
			}
		}
	}
}

// The same list as Noise, as Limits and as p.
func TestPreOfSharedLists(t *testing.T) {
	for _, halves := range [][]impl.Half{boxAnd(-5, -5, 5, 5), diamond(7), frameList(), lattice(38, 300, 5).Halves} {
		shared := withSpare(halves)
		r := changed(halvingRoom(), func(r *impl.Room) { r.Div = 3 })
		r.Limits.Halves = shared
		p := impl.Region{Halves: shared}
		for _, noise := range []impl.Region{boxOf(-1, -1, 1, 1), p} {
			r.Noise = noise
			for name, call := range roomRegions() {
				got, ok := call(r, p)
				want, wantOk := call(roomClipped(r), impl.Region{Halves: slices.Clone(halves)})
				checkRegion(t, name, halves, got, ok, want, wantOk)
				scribble(got.Halves)
				if !isUntouched(shared, halves) {
					t.Fatalf("%s: %v is changed to %v", name, halves, shared)
				}
			}
			checkKept(t, "shared", r, p, keptByBig(r, p))
			checkHeld(t, "shared", r, impl.Spot{D: 1}, impl.Ratio{D: 1}, p, heldByBig(r, impl.Spot{D: 1}, impl.Ratio{D: 1}, p))
		}
	}
}
