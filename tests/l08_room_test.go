package tests

import (
	"fmt"
	"math"
	"math/big"
	"math/rand/v2"
	"slices"
	"testing"

	"loop.example/g00832/impl"
)

const (
	maxStateDen = 100000
	maxInputDen = 1000
	maxNoiseDen = 1000
)

// someRoom returns a room in which no two numbers are equal.
func someRoom() impl.Room {
	return impl.Room{Map: []int{3, -1, 2, 4}, Div: 5, Bx: 7, By: -6, Low: -8, High: 9, Noise: boxOf(-1, -2, 1, 2), Limits: boxOf(-30, -40, 50, 60)}
}

// plainRoom returns a room whose next state is the sum of s, (bx, by) times the input, and the disturbance.
func plainRoom(bx int, by int) impl.Room {
	return impl.Room{Map: []int{1, 0, 0, 1}, Div: 1, Bx: bx, By: by, Low: -1, High: 1, Noise: boxOf(-1, -1, 1, 1), Limits: boxOf(-9, -9, 9, 9)}
}

func roomWith(change func(r *impl.Room)) impl.Room {
	r := someRoom()
	change(&r)
	return r
}

// validRoomByBig says what the chapter says.
func validRoomByBig(r impl.Room) bool {
	if len(r.Map) != 4 || slices.ContainsFunc(r.Map, func(n int) bool { return !within(n, -maxMapPart, maxMapPart) }) {
		return false
	}
	return r.Map[0]*r.Map[3] != r.Map[1]*r.Map[2] && within(r.Div, 1, maxMapPart) &&
		within(r.Bx, -maxDrive, maxDrive) && within(r.By, -maxDrive, maxDrive) &&
		within(r.Low, -maxInput, maxInput) && within(r.High, r.Low, maxInput) &&
		len(r.Noise.Halves) > 0 && validRegionByBig(r.Noise) && len(r.Limits.Halves) > 0 && validRegionByBig(r.Limits)
}

// nextByBig is for valid arguments alone.
func nextByBig(r impl.Room, s impl.Spot, u impl.Ratio, d impl.Spot) (impl.Spot, bool) {
	state, noise := mapByBig(pointOf(s), r.Map, r.Div), pointOf(d)
	sum := func(a *big.Rat, drive int, b *big.Rat) *big.Rat {
		total := new(big.Rat).Mul(whole(drive), bigRat(u))
		return total.Add(total.Add(total, a), b)
	}
	return spotOfRats(sum(state.x, r.Bx, noise.x), sum(state.y, r.By, noise.y))
}

// isStep says whether NextSpot takes these arguments.
func isStep(r impl.Room, s impl.Spot, u impl.Ratio, d impl.Spot) bool {
	return validRoomByBig(r) && validSpotByBig(s) && s.D <= maxStateDen && validByBig(u) && u.D <= maxInputDen &&
		bigRat(u).Cmp(whole(-maxInput)) >= 0 && bigRat(u).Cmp(whole(maxInput)) <= 0 && validSpotByBig(d) && d.D <= maxNoiseDen
}

// goodRooms are at the limits of every field.
func goodRooms() []impl.Room {
	list := []impl.Room{someRoom(), plainRoom(0, 0), plainRoom(1, 0), plainRoom(0, -1)}
	add := func(change func(r *impl.Room)) { list = append(list, roomWith(change)) }
	for _, m := range [][]int{{20, 0, 0, 20}, {-20, 0, 0, 20}, {0, 20, -20, 0}, {0, 1, 1, 0}, {20, 20, -20, 20}, {-20, 20, 20, 20}, {20, 19, 20, 20}, {1, 2, 3, 4}} {
		add(func(r *impl.Room) { r.Map = m })
	}
	for _, n := range []int{1, 2, 19, 20} {
		add(func(r *impl.Room) { r.Div = n })
	}
	for _, n := range []int{-100, -99, 0, 99, 100} {
		add(func(r *impl.Room) { r.Bx = n })
		add(func(r *impl.Room) { r.By = n })
		add(func(r *impl.Room) { r.Bx, r.By = n, -n })
	}
	for _, ends := range [][2]int{{-1000, -1000}, {-1000, -999}, {-1000, 1000}, {-5, -5}, {0, 0}, {3, 4}, {999, 1000}, {1000, 1000}} {
		add(func(r *impl.Room) { r.Low, r.High = ends[0], ends[1] })
	}
	for _, p := range append(goodRegions(), lattice(40, 300, 5)) {
		add(func(r *impl.Room) { r.Noise = p })
		add(func(r *impl.Room) { r.Limits = p })
	}
	add(func(r *impl.Room) { r.Noise = r.Limits })
	return list
}

// wrongRooms are not valid for one reason each.
func wrongRooms() []impl.Room {
	var list []impl.Room
	add := func(change func(r *impl.Room)) { list = append(list, roomWith(change)) }
	for _, m := range slices.Concat(wrongMaps(), flatMaps()) {
		add(func(r *impl.Room) { r.Map = m })
	}
	for _, n := range []int{math.MinInt, -20, -1, 0, 21, math.MaxInt} {
		add(func(r *impl.Room) { r.Div = n })
	}
	for _, n := range []int{math.MinInt, -101, 101, math.MaxInt} {
		add(func(r *impl.Room) { r.Bx = n })
		add(func(r *impl.Room) { r.By = n })
	}
	for _, ends := range [][2]int{
		{1, 0}, {10, 9}, {-8, -9}, {1000, -1000}, {-1001, 9}, {-1001, -1001}, {-8, 1001}, {1001, 1001},
		{math.MinInt, 9}, {-8, math.MaxInt}, {math.MaxInt, 9}, {-8, math.MinInt}, {math.MinInt, math.MaxInt}, {math.MaxInt, math.MinInt},
	} {
		add(func(r *impl.Room) { r.Low, r.High = ends[0], ends[1] })
	}
	for _, p := range slices.Concat(voidRegions(), wrongRegions(), []impl.Region{{Halves: make([]impl.Half, 100000)}}) {
		add(func(r *impl.Room) { r.Noise = p })
		add(func(r *impl.Room) { r.Limits = p })
	}
	return append(list, impl.Room{})
}

func checkRoomOk(t *testing.T, name string, r impl.Room, want bool) {
	t.Helper()
	if got := impl.RoomOk(r); got != want {
		t.Errorf("%s: RoomOk(%v) = %v", name, r, got)
	}
}

func TestRoomOk(t *testing.T) {
	for _, r := range goodRooms() {
		checkRoomOk(t, "good", r, true)
		if !validRoomByBig(r) {
			t.Errorf("%v is not valid", r)
		}
	}
	for _, r := range wrongRooms() {
		checkRoomOk(t, "wrong", r, false)
		if validRoomByBig(r) {
			t.Errorf("%v is valid", r)
		}
	}
}

func TestRoomOkNumberOfMapElements(t *testing.T) {
	all := []int{3, -1, 2, 4, 5, 6, 7, 8}
	for n := range len(all) + 1 {
		checkRoomOk(t, "number of elements", roomWith(func(r *impl.Room) { r.Map = all[:n] }), n == 4)
	}
	checkRoomOk(t, "no elements", roomWith(func(r *impl.Room) { r.Map = []int{} }), false)
	checkRoomOk(t, "nil", roomWith(func(r *impl.Room) { r.Map = nil }), false)
	checkRoomOk(t, "many elements", roomWith(func(r *impl.Room) { r.Map = make([]int, 100000) }), false)
}

func TestRoomOkMapElements(t *testing.T) {
	for at := range 4 {
		for _, n := range stepInts(maxMapPart) {
			r := someRoom()
			r.Map[at] = n
			checkRoomOk(t, "element", r, within(n, -maxMapPart, maxMapPart))
		}
	}
	for _, n := range stepInts(maxMapPart) {
		checkRoomOk(t, "divisor", roomWith(func(r *impl.Room) { r.Div = n }), within(n, 1, maxMapPart))
	}
}

func TestRoomOkDeterminant(t *testing.T) {
	cases := []struct {
		m    []int
		want bool
	}{
		{[]int{1, 0, 0, 1}, true},
		{[]int{-1, 0, 0, -1}, true},
		{[]int{1, 0, 0, -1}, true},
		{[]int{0, 1, 1, 0}, true},
		{[]int{0, -1, 1, 0}, true},
		{[]int{2, 3, 3, 5}, true},
		{[]int{3, 2, 5, 3}, true},
		{[]int{20, 19, 20, 20}, true},
		{[]int{20, 20, 19, 19}, false},
		{[]int{20, 20, -20, 20}, true},
		{[]int{20, 20, 20, 20}, false},
		{[]int{-20, 20, 20, -20}, false},
		{[]int{2, 3, 4, 6}, false},
		{[]int{2, -3, -4, 6}, false},
		{[]int{1, 0, 0, 0}, false},
		{[]int{0, 0, 0, 1}, false},
		{[]int{0, 1, 0, 1}, false},
		{[]int{1, 1, 0, 0}, false},
		{[]int{0, 0, 0, 0}, false},
	}
	for _, c := range cases {
		checkRoomOk(t, "determinant", roomWith(func(r *impl.Room) { r.Map = c.m }), c.want)
	}
}

func TestRoomOkDriveAndRange(t *testing.T) {
	for _, a := range stepInts(maxDrive) {
		for _, b := range stepInts(maxDrive) {
			want := within(a, -maxDrive, maxDrive) && within(b, -maxDrive, maxDrive)
			checkRoomOk(t, "drive", roomWith(func(r *impl.Room) { r.Bx, r.By = a, b }), want)
		}
	}
	for _, a := range stepInts(maxInput) {
		for _, b := range stepInts(maxInput) {
			want := within(a, -maxInput, maxInput) && within(b, -maxInput, maxInput) && a <= b
			checkRoomOk(t, "range", roomWith(func(r *impl.Room) { r.Low, r.High = a, b }), want)
		}
	}
}

func TestRoomOkRegions(t *testing.T) {
	cases := []struct {
		name string
		p    impl.Region
		want bool
	}{
		{"a box", boxOf(-1, -1, 1, 1), true},
		{"the frame", impl.Region{Halves: frameList()}, true},
		{"beside the origin", boxOf(700, -300, 800, -200), true},
		{"fractions", fractions(), true},
		{"40 edges", lattice(40, 300, 5), true},
		{"nil", impl.Region{}, false},
		{"no half planes", impl.Region{Halves: []impl.Half{}}, false},
		{"a point", boxOf(0, 0, 0, 0), false},
		{"a point by three edges", impl.Region{Halves: []impl.Half{{A: 1}, {B: 1}, {A: -1, B: -1}}}, false},
		{"an upright line", boxOf(2, -1, 2, 1), false},
		{"a level line", boxOf(-1, 3, 1, 3), false},
		{"a sloping line", impl.Region{Halves: []impl.Half{{A: 1, B: 1}, {A: -1, B: 1, C: 2}, {A: -1, B: -1}, {A: 1, B: -1, C: 2}}}, false},
		{"nothing left", boxOf(1, 0, 0, 1), false},
		{"not all edges", impl.Region{Halves: boxAnd(-1, -1, 1, 1)[1:]}, false},
		{"out of order", impl.Region{Halves: []impl.Half{{B: 1, C: 1}, {A: 1, C: 1}, {A: -1, C: 1}, {B: -1, C: 1}}}, false},
		{"one not needed", impl.Region{Halves: boxAnd(-1, -1, 1, 1, impl.Half{A: 1, B: -1, C: 2})}, false},
		{"not in lowest terms", impl.Region{Halves: []impl.Half{{A: 2, C: 2}, {B: 1, C: 1}, {A: -1, C: 1}, {B: -1, C: 1}}}, false},
		{"beyond the frame", boxOf(-1, -1, 1001, 1), false},
	}
	for _, c := range cases {
		checkRoomOk(t, "Noise: "+c.name, roomWith(func(r *impl.Room) { r.Noise = c.p }), c.want)
		checkRoomOk(t, "Limits: "+c.name, roomWith(func(r *impl.Room) { r.Limits = c.p }), c.want)
		checkRoomOk(t, "both: "+c.name, roomWith(func(r *impl.Room) { r.Noise, r.Limits = c.p, c.p }), c.want)
	}
	// No disturbance of this room leaves it within its limits.
	checkRoomOk(t, "far disturbances", roomWith(func(r *impl.Room) { r.Noise, r.Limits = boxOf(900, 900, 999, 999), boxOf(-2, -2, 2, 2) }), true)
}

// sameByText also takes nil and empty lists as equal.
func sameByText(a impl.Room, b impl.Room) bool {
	return fmt.Sprint(a) == fmt.Sprint(b)
}

func checkSame(t *testing.T, name string, a impl.Room, b impl.Room, want bool) {
	t.Helper()
	if impl.SameRooms(a, b) != want || impl.SameRooms(b, a) != want {
		t.Errorf("%s: SameRooms(%v, %v) = %v, the other way round %v", name, a, b, impl.SameRooms(a, b), impl.SameRooms(b, a))
	}
	if !impl.SameRooms(a, a) || !impl.SameRooms(b, b) {
		t.Errorf("%s: %v or %v is not the same as itself", name, a, b)
	}
}

func TestSameRoomsOneNumber(t *testing.T) {
	changes := map[string]func(r *impl.Room, n int){
		"Map[0]":                         func(r *impl.Room, n int) { r.Map[0] = n },
		"Map[1]":                         func(r *impl.Room, n int) { r.Map[1] = n },
		"Map[2]":                         func(r *impl.Room, n int) { r.Map[2] = n },
		"Map[3]":                         func(r *impl.Room, n int) { r.Map[3] = n },
		"Div":                            func(r *impl.Room, n int) { r.Div = n },
		"Bx":                             func(r *impl.Room, n int) { r.Bx = n },
		"By":                             func(r *impl.Room, n int) { r.By = n },
		"Low":                            func(r *impl.Room, n int) { r.Low = n },
		"High":                           func(r *impl.Room, n int) { r.High = n },
		"a first coefficient of Noise":   func(r *impl.Room, n int) { r.Noise.Halves[1].A = n },
		"a second coefficient of Noise":  func(r *impl.Room, n int) { r.Noise.Halves[2].B = n },
		"a top of Noise":                 func(r *impl.Room, n int) { r.Noise.Halves[0].C = n },
		"the last top of Noise":          func(r *impl.Room, n int) { r.Noise.Halves[3].C = n },
		"a first coefficient of Limits":  func(r *impl.Room, n int) { r.Limits.Halves[3].A = n },
		"a second coefficient of Limits": func(r *impl.Room, n int) { r.Limits.Halves[0].B = n },
		"a top of Limits":                func(r *impl.Room, n int) { r.Limits.Halves[1].C = n },
		"the last top of Limits":         func(r *impl.Room, n int) { r.Limits.Halves[3].C = n },
	}
	numbers := []int{math.MinInt, math.MinInt + 1, -1 << 32, -17, -1, 0, 1, 17, 1 << 32, math.MaxInt - 1, math.MaxInt}
	for name, change := range changes {
		for _, n := range numbers {
			for _, m := range append(numbers, n) {
				a := roomWith(func(r *impl.Room) { change(r, n) })
				b := roomWith(func(r *impl.Room) { change(r, m) })
				checkSame(t, name, a, b, n == m)
			}
		}
	}
}

func TestSameRoomsLengths(t *testing.T) {
	changes := map[string]func(r *impl.Room){
		"Map shorter":       func(r *impl.Room) { r.Map = r.Map[:3] },
		"Map longer":        func(r *impl.Room) { r.Map = append(r.Map, 0) },
		"Map without":       func(r *impl.Room) { r.Map = nil },
		"Map all zero":      func(r *impl.Room) { r.Map = make([]int, 4) },
		"Noise shorter":     func(r *impl.Room) { r.Noise.Halves = r.Noise.Halves[:3] },
		"Noise without 0":   func(r *impl.Room) { r.Noise.Halves = r.Noise.Halves[1:] },
		"Noise longer":      func(r *impl.Room) { r.Noise.Halves = append(r.Noise.Halves, impl.Half{}) },
		"Noise void":        func(r *impl.Room) { r.Noise.Halves = nil },
		"Limits shorter":    func(r *impl.Room) { r.Limits.Halves = r.Limits.Halves[:3] },
		"Limits without 0":  func(r *impl.Room) { r.Limits.Halves = r.Limits.Halves[1:] },
		"Limits longer":     func(r *impl.Room) { r.Limits.Halves = append(r.Limits.Halves, impl.Half{}) },
		"Limits void":       func(r *impl.Room) { r.Limits.Halves = nil },
		"both exchanged":    func(r *impl.Room) { r.Noise, r.Limits = r.Limits, r.Noise },
		"both Noise":        func(r *impl.Room) { r.Limits = r.Noise },
		"both Limits":       func(r *impl.Room) { r.Noise = r.Limits },
		"ends exchanged":    func(r *impl.Room) { r.Low, r.High = r.High, r.Low },
		"drive exchanged":   func(r *impl.Room) { r.Bx, r.By = r.By, r.Bx },
		"Map turned":        func(r *impl.Room) { r.Map[1], r.Map[2] = r.Map[2], r.Map[1] },
		"Noise turned":      func(r *impl.Room) { slices.Reverse(r.Noise.Halves) },
		"nothing but Noise": func(r *impl.Room) { *r = impl.Room{Noise: r.Noise} },
		"nothing":           func(r *impl.Room) { *r = impl.Room{} },
	}
	for name, change := range changes {
		checkSame(t, name, someRoom(), roomWith(change), false)
		checkSame(t, name, roomWith(change), roomWith(change), true)
		for other, further := range changes {
			checkSame(t, name+", "+other, roomWith(change), roomWith(further), name == other)
		}
	}
}

func TestSameRoomsNilAndEmpty(t *testing.T) {
	empty := impl.Room{Map: []int{}, Noise: impl.Region{Halves: []impl.Half{}}, Limits: impl.Region{Halves: []impl.Half{}}}
	checkSame(t, "all", impl.Room{}, empty, true)
	checkSame(t, "Map", roomWith(func(r *impl.Room) { r.Map = nil }), roomWith(func(r *impl.Room) { r.Map = r.Map[:0] }), true)
	checkSame(t, "Noise", roomWith(func(r *impl.Room) { r.Noise = impl.Region{} }), roomWith(func(r *impl.Room) { r.Noise.Halves = r.Noise.Halves[:0] }), true)
	checkSame(t, "Limits", roomWith(func(r *impl.Room) { r.Limits = impl.Region{} }), roomWith(func(r *impl.Room) { r.Limits.Halves = r.Limits.Halves[:0] }), true)
}

func TestSameRoomsPairs(t *testing.T) {
	list := slices.Concat(goodRooms(), wrongRooms())
	list = slices.DeleteFunc(list, func(r impl.Room) bool { return len(r.Noise.Halves) > 1000 || len(r.Limits.Halves) > 1000 })
	var texts []string
	for _, r := range list {
		texts = append(texts, fmt.Sprint(r))
	}
	for i, a := range list {
		for j, b := range list {
			if got := impl.SameRooms(a, b); got != (texts[i] == texts[j]) {
				t.Errorf("SameRooms(%v, %v) = %v", a, b, got)
			}
		}
	}
	long := roomWith(func(r *impl.Room) { r.Noise.Halves = make([]impl.Half, 100000) })
	longer := roomWith(func(r *impl.Room) { r.Noise.Halves = make([]impl.Half, 100001) })
	checkSame(t, "long", long, longer, false)
}

type nextCase struct {
	name string
	r    impl.Room
	s    impl.Spot
	u    impl.Ratio
	d    impl.Spot
	want impl.Spot
}

func nextCases() []nextCase {
	some, still, along, zero, origin := someRoom(), plainRoom(0, 0), plainRoom(1, 0), impl.Ratio{D: 1}, impl.Spot{D: 1}
	roomOf := func(bx int, by int, div int, m ...int) impl.Room {
		r := plainRoom(bx, by)
		r.Map, r.Div = m, div
		return r
	}
	return []nextCase{
		{"whole numbers", some, impl.Spot{X: 10, Y: 5, D: 1}, impl.Ratio{N: 2, D: 1}, impl.Spot{X: 1, Y: -1, D: 1}, impl.Spot{X: 20, Y: -5, D: 1}},
		{"fractions", some, impl.Spot{X: 1, Y: 2, D: 3}, impl.Ratio{N: -1, D: 2}, impl.Spot{X: 1, Y: 3, D: 4}, impl.Spot{X: -191, Y: 265, D: 60}},
		{"nothing moves", still, impl.Spot{X: 3, Y: -4, D: 7}, impl.Ratio{N: 999, D: 2}, origin, impl.Spot{X: 3, Y: -4, D: 7}},
		{"the state alone", some, impl.Spot{X: 1, Y: 1, D: 1}, zero, origin, impl.Spot{X: 2, Y: 6, D: 5}},
		{"the input alone", some, origin, impl.Ratio{N: 1, D: 3}, origin, impl.Spot{X: 7, Y: -6, D: 3}},
		{"the disturbance alone", some, origin, zero, impl.Spot{X: 3, Y: 4, D: 5}, impl.Spot{X: 3, Y: 4, D: 5}},
		{"nothing at all", some, origin, zero, origin, origin},
		{"a common divisor", still, impl.Spot{X: 1, Y: 1, D: 6}, zero, impl.Spot{X: 1, Y: 1, D: 3}, impl.Spot{X: 1, Y: 1, D: 2}},
		{"to a whole spot", along, impl.Spot{X: 1, Y: 1, D: 6}, impl.Ratio{N: 1, D: 2}, impl.Spot{X: 2, Y: 5, D: 6}, impl.Spot{X: 1, Y: 1, D: 1}},
		{"above High", along, origin, impl.Ratio{N: 1000, D: 1}, origin, impl.Spot{X: 1000, D: 1}},
		{"below Low", along, origin, impl.Ratio{N: -1000, D: 1}, origin, impl.Spot{X: -1000, D: 1}},
		{"an input with the greatest D", along, origin, impl.Ratio{N: 1, D: maxInputDen}, origin, impl.Spot{X: 1, D: 1000}},
		{"an input with the greatest D far away", plainRoom(0, 1), origin, impl.Ratio{N: 999999, D: maxInputDen}, origin, impl.Spot{Y: 999999, D: 1000}},
		{"not in Noise", still, origin, zero, impl.Spot{X: -1000, Y: 1000, D: 1}, impl.Spot{X: -1000, Y: 1000, D: 1}},
		{"not in Limits", still, impl.Spot{X: 1000, Y: -1000, D: 1}, zero, origin, impl.Spot{X: 1000, Y: -1000, D: 1}},
		{"a disturbance with the greatest D", still, origin, zero, impl.Spot{X: 1, Y: -999999, D: maxNoiseDen}, impl.Spot{X: 1, Y: -999999, D: 1000}},
		{"a state with the greatest D", still, impl.Spot{X: 1, Y: -99999999, D: maxStateDen}, zero, origin, impl.Spot{X: 1, Y: -99999999, D: 100000}},
		{"a state divided", roomOf(0, 0, 20, 1, 0, 0, 1), impl.Spot{X: 1, Y: 3, D: maxStateDen}, zero, origin, impl.Spot{X: 1, Y: 3, D: 2000000}},
		{"a state divided and times 20", roomOf(0, 0, 20, 20, 0, 0, 20), impl.Spot{X: 1, Y: 3, D: maxStateDen}, zero, origin, impl.Spot{X: 1, Y: 3, D: 100000}},
		{"the greatest D before lowest terms", roomOf(1, 1, 20, 1, 0, 0, 1), impl.Spot{X: 1, Y: 3, D: maxStateDen}, impl.Ratio{N: 1, D: 1000},
			impl.Spot{X: 1, Y: -1, D: 1000}, impl.Spot{X: 4001, Y: 3, D: 2000000}},
		{"D just within its limit", along, impl.Spot{X: 1, Y: 1, D: 26088}, impl.Ratio{N: 1, D: 299}, impl.Spot{X: 1, D: 641},
			impl.Spot{X: 191659 + 16722408 + 7800312, Y: 191659, D: 4999999992}},
		{"D within its limit by both coordinates", roomOf(0, 1, 1, 1, 0, 0, 1), impl.Spot{X: 1, D: 26088}, impl.Ratio{N: 1, D: 299}, impl.Spot{X: 0, Y: 1, D: 641},
			impl.Spot{X: 191659, Y: 16722408 + 7800312, D: 4999999992}},
		{"D within its limit by a drive", plainRoom(77, 0), impl.Spot{X: 1, D: 52579}, impl.Ratio{N: 1, D: 385}, impl.Spot{X: 1, D: 247},
			impl.Spot{X: 5*247 + 52579*247 + 52579*5, D: 52579 * 5 * 247}},
		{"to the edge of the frame by a disturbance", still, impl.Spot{X: 999, D: 1}, zero, impl.Spot{X: 1, D: 1}, impl.Spot{X: 1000, D: 1}},
		{"to the edge of the frame by fractions", along, impl.Spot{X: 1999, D: 2}, impl.Ratio{N: 1, D: 3}, impl.Spot{X: 1, D: 6}, impl.Spot{X: 1000, D: 1}},
		{"to the lower edge of the frame", plainRoom(0, 1), impl.Spot{Y: -1999, D: 2}, impl.Ratio{N: -1, D: 3}, impl.Spot{Y: -1, D: 6}, impl.Spot{Y: -1000, D: 1}},
		{"next to the corner of the frame", plainRoom(1, -1), impl.Spot{X: 99999999, Y: -99999999, D: maxStateDen}, impl.Ratio{N: 1, D: 1000},
			impl.Spot{X: -1, Y: 1, D: 1000}, impl.Spot{X: 99999999, Y: -99999999, D: 100000}},
		{"out of the frame and back by the input", roomOf(-100, 100, 1, 20, 0, 0, 20), impl.Spot{X: 1000, Y: -1000, D: 1}, impl.Ratio{N: 200, D: 1}, origin, origin},
		{"out of the frame and back by the disturbance", along, impl.Spot{X: 1000, D: 1}, impl.Ratio{N: 1, D: 1}, impl.Spot{X: -1, D: 1}, impl.Spot{X: 1000, D: 1}},
		{"out of the frame and back by fractions", roomOf(-100, 100, 1, 20, 0, 0, 20), impl.Spot{X: 99999999, Y: -99999999, D: maxStateDen},
			impl.Ratio{N: 199999, D: 1000}, impl.Spot{X: 899999, Y: -899999, D: 1000}, impl.Spot{X: 900*2500 + 247, Y: -900*2500 - 247, D: 2500}},
		{"the greatest sum of the map", roomOf(100, 0, 1, 20, -20, -20, -20), impl.Spot{X: -1000, Y: 1000, D: 1}, impl.Ratio{N: 400, D: 1}, origin, origin},
	}
}

// farCases have no valid spot as their next state.
func farCases() []nextCase {
	still, along, zero, origin := plainRoom(0, 0), plainRoom(1, 0), impl.Ratio{D: 1}, impl.Spot{D: 1}
	large := roomWith(func(r *impl.Room) { r.Map, r.Div, r.Bx, r.By = []int{20, 20, -20, 20}, 1, 100, 100 })
	return []nextCase{
		{"x beyond the frame", still, impl.Spot{X: 1000, D: 1}, zero, impl.Spot{X: 1, D: 1}, impl.Spot{}},
		{"x below the frame", still, impl.Spot{X: -1000, D: 1}, zero, impl.Spot{X: -1, D: 1}, impl.Spot{}},
		{"y beyond the frame", still, impl.Spot{Y: 1000, D: 1}, zero, impl.Spot{Y: 1, D: 1}, impl.Spot{}},
		{"y below the frame", still, impl.Spot{Y: -1000, D: 1}, zero, impl.Spot{Y: -1, D: 1}, impl.Spot{}},
		{"x beyond the frame by the input", along, impl.Spot{X: 1000, D: 1}, impl.Ratio{N: 1, D: 1000}, origin, impl.Spot{}},
		{"y below the frame by the input", plainRoom(0, 1), impl.Spot{Y: -1000, D: 1}, impl.Ratio{N: -1, D: 1000}, origin, impl.Spot{}},
		{"x beyond the frame by a small step", along, impl.Spot{X: 99999999, D: maxStateDen}, impl.Ratio{N: 1, D: 999}, impl.Spot{D: 1}, impl.Spot{}},
		{"x beyond the frame by fractions", along, impl.Spot{X: 1999, D: 2}, impl.Ratio{N: 1, D: 3}, impl.Spot{X: 167, D: 1000}, impl.Spot{}},
		{"D just beyond its limit", along, impl.Spot{X: 1, D: 52579}, impl.Ratio{N: 1, D: 385}, impl.Spot{X: 1, D: 247}, impl.Spot{}},
		{"D beyond its limit by both coordinates", plainRoom(0, 1), impl.Spot{X: 1, D: 52579}, impl.Ratio{N: 1, D: 385}, impl.Spot{Y: 1, D: 247}, impl.Spot{}},
		{"D far beyond its limit", along, impl.Spot{X: 1, D: 99991}, impl.Ratio{N: 1, D: 997}, impl.Spot{X: 1, D: 991}, impl.Spot{}},
		{"D farthest beyond its limit", roomWith(func(r *impl.Room) { r.Map, r.Div = []int{1, 0, 0, 1}, 19 }), impl.Spot{X: 1, Y: 1, D: 99991}, impl.Ratio{N: 1, D: 997},
			impl.Spot{X: 1, Y: 1, D: 991}, impl.Spot{}},
		{"the greatest numbers", large, impl.Spot{X: 99999999, Y: 99999999, D: maxStateDen}, impl.Ratio{N: 999999, D: 1000}, impl.Spot{X: 999999, Y: 999999, D: 1000}, impl.Spot{}},
		{"the least numbers", large, impl.Spot{X: -99999999, Y: -99999999, D: maxStateDen}, impl.Ratio{N: -999999, D: 1000}, impl.Spot{X: -999999, Y: -999999, D: 1000}, impl.Spot{}},
	}
}

func checkNext(t *testing.T, name string, r impl.Room, s impl.Spot, u impl.Ratio, d impl.Spot, want impl.Spot, wantOk bool) {
	t.Helper()
	got, ok := impl.NextSpot(r, s, u, d)
	checkSpot(t, "NextSpot: "+name, []any{r, s, u, d}, got, ok, want, wantOk)
}

func TestNextSpot(t *testing.T) {
	for _, c := range nextCases() {
		checkNext(t, c.name, c.r, c.s, c.u, c.d, c.want, true)
	}
	for _, c := range farCases() {
		checkNext(t, c.name, c.r, c.s, c.u, c.d, impl.Spot{}, false)
	}
	for _, c := range slices.Concat(nextCases(), farCases()) {
		if !isStep(c.r, c.s, c.u, c.d) {
			t.Errorf("%s: not valid", c.name)
		}
		// The cases also show that the calculation used for the sweeps is right.
		got, ok := nextByBig(c.r, c.s, c.u, c.d)
		checkSpot(t, "nextByBig: "+c.name, c, got, ok, c.want, c.want != impl.Spot{})
	}
}

// A wrong number in one place, with everything else as it should be.
func TestNextSpotLimits(t *testing.T) {
	still, along, zero, origin := plainRoom(0, 0), plainRoom(1, 1), impl.Ratio{D: 1}, impl.Spot{D: 1}
	for _, d := range []int{maxStateDen - 1, maxStateDen, maxStateDen + 1, maxStateDen + 2, 1 << 32, maxDen} {
		for _, s := range []impl.Spot{{X: 1, Y: 1, D: d}, {X: d - 1, Y: -1, D: d}, {X: 1, Y: -maxPlace*d + 1, D: d}} {
			want, wantOk := s, d <= maxStateDen
			if !wantOk {
				want = impl.Spot{}
			}
			checkNext(t, "D of s", still, s, zero, origin, want, wantOk)
		}
	}
	for _, d := range []int{maxNoiseDen - 1, maxNoiseDen, maxNoiseDen + 1, maxNoiseDen + 2, maxStateDen, 1 << 32, maxDen} {
		for _, s := range []impl.Spot{{X: 1, Y: 1, D: d}, {X: d - 1, Y: -1, D: d}, {X: 1, Y: -maxPlace*d + 1, D: d}} {
			want, wantOk := s, d <= maxNoiseDen
			if !wantOk {
				want = impl.Spot{}
			}
			checkNext(t, "D of t", still, origin, zero, s, want, wantOk)
		}
	}
	for _, d := range []int{maxInputDen - 1, maxInputDen, maxInputDen + 1, maxInputDen + 2, maxStateDen, 1 << 32, maxDen, maxDiv} {
		for _, n := range []int{1, -1, d - 1, 1 - d} {
			want, wantOk := impl.Spot{X: n, Y: n, D: d}, d <= maxInputDen
			if !wantOk {
				want = impl.Spot{}
			}
			checkNext(t, "D of u", along, origin, impl.Ratio{N: n, D: d}, origin, want, wantOk)
			// The limits apply even to an input that drives nothing.
			checkNext(t, "D of u", still, origin, impl.Ratio{N: n, D: d}, origin, impl.Spot{D: wantD(wantOk)}, wantOk)
		}
	}
}

// wantD returns the D of the origin, or that of the zero value.
func wantD(ok bool) int {
	if ok {
		return 1
	}
	return 0
}

func TestNextSpotLimitsOfInputs(t *testing.T) {
	still, origin := plainRoom(0, 0), impl.Spot{D: 1}
	for _, d := range []int{1, 2, 3, 7, 999, 1000} {
		far := maxInput * d
		for _, n := range []int{math.MinInt, math.MinInt + 1, -maxNum - 1, -maxNum, -far - d, -far - 1, -far, 1 - far, -1, 0, 1, far - 1, far, far + 1, far + d, maxNum, maxNum + 1, math.MaxInt} {
			u := impl.Ratio{N: n, D: d}
			wantOk := validByBig(u) && within(n, -far, far)
			checkNext(t, "input", still, origin, u, origin, impl.Spot{D: wantD(wantOk)}, wantOk)
		}
	}
	// From Low to High is not required, but from -1000 to 1000 is, whatever Low and High are.
	for _, ends := range [][2]int{{-1000, 1000}, {-3, 4}, {5, 5}, {1000, 1000}, {-1000, -1000}} {
		r := plainRoom(1, 0)
		r.Low, r.High = ends[0], ends[1]
		for _, n := range []int{-1001, -1000, -4, -3, 0, 4, 5, 6, 1000, 1001} {
			want, wantOk := impl.Spot{X: n, D: 1}, within(n, -1000, 1000)
			if !wantOk {
				want = impl.Spot{}
			}
			checkNext(t, "range", r, origin, impl.Ratio{N: n, D: 1}, origin, want, wantOk)
		}
	}
}

func TestNextSpotInvalid(t *testing.T) {
	some, s, u, d := someRoom(), impl.Spot{X: 1, Y: 2, D: 3}, impl.Ratio{N: 1, D: 2}, impl.Spot{X: 1, Y: 1, D: 5}
	want, wantOk := nextByBig(some, s, u, d)
	checkNext(t, "valid", some, s, u, d, want, wantOk)
	if !wantOk {
		t.Error("there should be a next state")
	}
	for _, bad := range invalidSpots() {
		checkNext(t, "state", some, bad, u, d, impl.Spot{}, false)
		checkNext(t, "disturbance", some, s, u, bad, impl.Spot{}, false)
		checkNext(t, "both", some, bad, u, bad, impl.Spot{}, false)
	}
	for _, bad := range invalidRatios() {
		checkNext(t, "input", some, s, bad, d, impl.Spot{}, false)
		checkNext(t, "input that drives nothing", plainRoom(0, 0), s, bad, d, impl.Spot{}, false)
	}
	for _, bad := range wrongRooms() {
		checkNext(t, "room", bad, s, u, d, impl.Spot{}, false)
		checkNext(t, "room at the origin", bad, impl.Spot{D: 1}, impl.Ratio{D: 1}, impl.Spot{D: 1}, impl.Spot{}, false)
	}
	for _, n := range edgeInts() {
		for _, m := range []int{math.MinInt, -1, 0, 1, 2, math.MaxInt} {
			for _, c := range []impl.Spot{{X: n, Y: m, D: 1}, {X: m, Y: n, D: 1}, {X: 1, Y: m, D: n}, {X: m, Y: 1, D: n}} {
				for _, r := range []impl.Room{some, plainRoom(1, -1)} {
					checkNextByBig(t, r, c, u, d)
					checkNextByBig(t, r, s, u, c)
					checkNextByBig(t, r, s, impl.Ratio{N: n, D: m}, d)
				}
			}
		}
	}
}

// checkNextByBig returns whether there is a next state.
func checkNextByBig(t *testing.T, r impl.Room, s impl.Spot, u impl.Ratio, d impl.Spot) bool {
	t.Helper()
	var want impl.Spot
	wantOk := isStep(r, s, u, d)
	if wantOk {
		want, wantOk = nextByBig(r, s, u, d)
	}
	checkNext(t, "sweep", r, s, u, d, want, wantOk)
	return wantOk
}

// someSpot returns a valid spot with a D up to most, near the origin or anywhere in the frame.
func someSpot(source *rand.Rand, most int) impl.Spot {
	for {
		d := 1 + source.IntN(most)
		far := []int{d, 20 * d, maxPlace * d}[source.IntN(3)]
		s := impl.Spot{X: source.IntN(2*far+1) - far, Y: source.IntN(2*far+1) - far, D: d}
		if validSpotByBig(s) {
			return s
		}
	}
}

func someInput(source *rand.Rand, most int) impl.Ratio {
	for {
		d := 1 + source.IntN(most)
		far := []int{d, 20 * d, maxInput * d}[source.IntN(3)]
		u := impl.Ratio{N: source.IntN(2*far+1) - far, D: d}
		if validByBig(u) {
			return u
		}
	}
}

// anyRoom returns a room with any map and drive.
func anyRoom(source *rand.Rand) impl.Room {
	r := someRoom()
	r.Map, r.Div = someMap(source)
	most := []int{1, 10, maxDrive}[source.IntN(3)]
	r.Bx, r.By = source.IntN(2*most+1)-most, source.IntN(2*most+1)-most
	return r
}

func TestNextSpotSweep(t *testing.T) {
	source := rand.New(rand.NewPCG(8, 1))
	found, none := 0, 0
	for range 6000 {
		most := []int{3, 30, 1000}[source.IntN(3)]
		state := []int{3, 30, 1000, maxStateDen}[source.IntN(4)]
		if checkNextByBig(t, anyRoom(source), someSpot(source, state), someInput(source, most), someSpot(source, most)) {
			found++
		} else {
			none++
		}
	}
	if found < 1000 || none < 1000 {
		t.Errorf("%d spots, %d without one", found, none)
	}
}

// With the greatest numbers in every part, the input and the disturbance lead back into the frame.
func TestNextSpotGreatNumbers(t *testing.T) {
	source := rand.New(rand.NewPCG(8, 2))
	found := 0
	for range 4000 {
		r := anyRoom(source)
		r.Map, r.Div = []int{20, source.IntN(41) - 20, source.IntN(41) - 20, 19}, 1+source.IntN(20)
		r.Bx, r.By = -maxDrive+source.IntN(3), -maxDrive+source.IntN(3)
		s := impl.Spot{X: maxPlace*maxStateDen - 1 - source.IntN(1000), Y: maxPlace*maxStateDen - 1 - source.IntN(1000), D: maxStateDen}
		d := impl.Spot{X: 999999 - 2*source.IntN(100), Y: source.IntN(1000), D: maxNoiseDen}
		if !validSpotByBig(s) || !validSpotByBig(d) || !validRoomByBig(r) {
			continue
		}
		// The input that leads x back to about 0.
		back := new(big.Rat).Quo(mapByBig(pointOf(s), r.Map, r.Div).x, whole(-r.Bx))
		n, _ := new(big.Rat).Mul(back, whole(maxInputDen)).Float64()
		u := impl.RatioOf(int(n), maxInputDen)
		for _, input := range []impl.Ratio{u, {N: 999999, D: 1000}, {N: -999999, D: 1000}} {
			if checkNextByBig(t, r, s, input, d) {
				found++
			}
		}
	}
	if found < 100 {
		t.Errorf("only %d spots", found)
	}
}

// The next state is that of MapSpot, moved by what a whole input and a whole disturbance add.
func TestNextSpotIsMappedAndShifted(t *testing.T) {
	source := rand.New(rand.NewPCG(8, 3))
	tested := 0
	for range 2000 {
		r, s := anyRoom(source), someSpot(source, maxStateDen)
		image, ok := impl.MapSpot(s, r.Map, r.Div)
		if !ok {
			continue
		}
		checkNext(t, "mapped", r, s, impl.Ratio{D: 1}, impl.Spot{D: 1}, image, true)
		u, x, y := source.IntN(9)-4, source.IntN(99)-49, source.IntN(99)-49
		want, wantOk := impl.ShiftSpot(image, r.Bx*u+x, r.By*u+y)
		checkNext(t, "mapped and shifted", r, s, impl.Ratio{N: u, D: 1}, impl.Spot{X: x, Y: y, D: 1}, want, wantOk)
		tested++
	}
	if tested < 500 {
		t.Errorf("only %d states", tested)
	}
}

// Only the map, the drive, and not the rest of a room, count for the next state.
func TestNextSpotOfRoomsThatDiffer(t *testing.T) {
	s, u, d := impl.Spot{X: 1, Y: 2, D: 3}, impl.Ratio{N: 1, D: 2}, impl.Spot{X: 1, Y: 1, D: 5}
	for _, r := range goodRooms() {
		checkNextByBig(t, r, s, u, d)
		checkNextByBig(t, r, impl.Spot{D: 1}, impl.Ratio{D: 1}, impl.Spot{D: 1})
	}
}

func checkCentre(t *testing.T, r impl.Room, want impl.Ratio) {
	t.Helper()
	if got := impl.CentreInput(r); got != want {
		t.Errorf("CentreInput(%v) = %v, not %v", r, got, want)
	}
}

func TestCentreInput(t *testing.T) {
	cases := []struct {
		low  int
		high int
		want impl.Ratio
	}{
		{-2, 2, impl.Ratio{N: 0, D: 1}},
		{0, 0, impl.Ratio{N: 0, D: 1}},
		{0, 1, impl.Ratio{N: 1, D: 2}},
		{-1, 0, impl.Ratio{N: -1, D: 2}},
		{1, 3, impl.Ratio{N: 2, D: 1}},
		{-3, -1, impl.Ratio{N: -2, D: 1}},
		{-4, -1, impl.Ratio{N: -5, D: 2}},
		{-8, 9, impl.Ratio{N: 1, D: 2}},
		{-9, 8, impl.Ratio{N: -1, D: 2}},
		{7, 7, impl.Ratio{N: 7, D: 1}},
		{-7, -7, impl.Ratio{N: -7, D: 1}},
		{-1000, 1000, impl.Ratio{N: 0, D: 1}},
		{-1000, 999, impl.Ratio{N: -1, D: 2}},
		{-999, 1000, impl.Ratio{N: 1, D: 2}},
		{999, 1000, impl.Ratio{N: 1999, D: 2}},
		{-1000, -999, impl.Ratio{N: -1999, D: 2}},
		{1000, 1000, impl.Ratio{N: 1000, D: 1}},
		{-1000, -1000, impl.Ratio{N: -1000, D: 1}},
		{1, 0, impl.Ratio{}},
		{1000, -1000, impl.Ratio{}},
		{-1001, 1001, impl.Ratio{}},
		{-1001, 0, impl.Ratio{}},
		{0, 1001, impl.Ratio{}},
		{math.MinInt, math.MaxInt, impl.Ratio{}},
		{math.MaxInt, math.MaxInt, impl.Ratio{}},
		{math.MinInt, math.MinInt, impl.Ratio{}},
	}
	for _, c := range cases {
		checkCentre(t, roomWith(func(r *impl.Room) { r.Low, r.High = c.low, c.high }), c.want)
	}
	for _, r := range goodRooms() {
		want, _ := ratioOfRat(big.NewRat(int64(r.Low+r.High), 2))
		checkCentre(t, r, want)
		if !impl.IsInput(r, want) {
			t.Errorf("%v is no input of %v", want, r)
		}
	}
	for _, r := range wrongRooms() {
		checkCentre(t, r, impl.Ratio{})
	}
}

func checkInput(t *testing.T, r impl.Room, u impl.Ratio, want bool) {
	t.Helper()
	if got := impl.IsInput(r, u); got != want {
		t.Errorf("IsInput(%v, %v) = %v", r, u, got)
	}
}

func TestIsInput(t *testing.T) {
	cases := []struct {
		u    impl.Ratio
		want bool
	}{
		{impl.Ratio{N: -9, D: 1}, false},
		{impl.Ratio{N: -17, D: 2}, false},
		{impl.Ratio{N: -8*maxDiv - 1, D: maxDiv}, false},
		{impl.Ratio{N: -8, D: 1}, true},
		{impl.Ratio{N: -8*maxDiv + 1, D: maxDiv}, true},
		{impl.Ratio{N: -15, D: 2}, true},
		{impl.Ratio{N: 0, D: 1}, true},
		{impl.Ratio{N: 1, D: 3}, true},
		{impl.Ratio{N: 1, D: maxDiv}, true},
		{impl.Ratio{N: 17, D: 2}, true},
		{impl.Ratio{N: 9*maxDiv - 1, D: maxDiv}, true},
		{impl.Ratio{N: 9, D: 1}, true},
		{impl.Ratio{N: 9*maxDiv + 1, D: maxDiv}, false},
		{impl.Ratio{N: 19, D: 2}, false},
		{impl.Ratio{N: 10, D: 1}, false},
		{impl.Ratio{N: maxNum, D: 1}, false},
		{impl.Ratio{N: -maxNum, D: 1}, false},
		{impl.Ratio{N: 2, D: 2}, false},
		{impl.Ratio{N: 0, D: 2}, false},
		{impl.Ratio{N: -16, D: 2}, false},
		{impl.Ratio{N: 18, D: 2}, false},
		{impl.Ratio{N: 8, D: -1}, false},
		{impl.Ratio{N: -8, D: -1}, false},
		{impl.Ratio{}, false},
		{impl.Ratio{N: 1}, false},
	}
	for _, c := range cases {
		checkInput(t, someRoom(), c.u, c.want)
	}
}

func TestIsInputSweep(t *testing.T) {
	var rooms []impl.Room
	for _, ends := range [][2]int{{-1000, 1000}, {-1000, -1000}, {1000, 1000}, {0, 0}, {-1, 1}, {2, 3}, {-3, -2}, {999, 1000}, {-1000, -999}} {
		rooms = append(rooms, roomWith(func(r *impl.Room) { r.Low, r.High = ends[0], ends[1] }))
	}
	list := append(validRatios(), impl.Ratio{N: 1000*maxDiv - 1, D: maxDiv}, impl.Ratio{N: 1 - 1000*maxDiv, D: maxDiv},
		impl.Ratio{N: 999*maxDiv + 1, D: maxDiv}, impl.Ratio{N: -999*maxDiv - 1, D: maxDiv})
	for _, n := range []int{-1001, -1000, -999, 999, 1000, 1001} {
		list = append(list, impl.Ratio{N: n, D: 1}, impl.Ratio{N: 7*n + 1, D: 7}, impl.Ratio{N: 7*n - 1, D: 7})
	}
	count := 0
	for _, u := range list {
		for _, r := range rooms {
			want := validByBig(u) && bigRat(u).Cmp(whole(r.Low)) >= 0 && bigRat(u).Cmp(whole(r.High)) <= 0
			checkInput(t, r, u, want)
			if want {
				count++
			}
		}
	}
	if count < 300 {
		t.Errorf("only %d inputs", count)
	}
	for _, n := range edgeInts() {
		for _, d := range edgeInts() {
			u := impl.Ratio{N: n, D: d}
			checkInput(t, rooms[0], u, validByBig(u) && bigRat(u).Cmp(whole(-1000)) >= 0 && bigRat(u).Cmp(whole(1000)) <= 0)
		}
	}
}

func TestIsInputInvalid(t *testing.T) {
	for _, u := range invalidRatios() {
		checkInput(t, someRoom(), u, false)
		checkInput(t, roomWith(func(r *impl.Room) { r.Low, r.High = -1000, 1000 }), u, false)
	}
	for _, r := range wrongRooms() {
		for _, u := range []impl.Ratio{{D: 1}, {N: 1, D: 2}, {N: -8, D: 1}, {N: 9, D: 1}, {}} {
			checkInput(t, r, u, false)
		}
	}
}

func checkRoom(t *testing.T, call string, args any, got impl.Room, ok bool, want impl.Room, wantOk bool) {
	t.Helper()
	if !wantOk {
		want = impl.Room{}
	}
	if ok != wantOk || !sameByText(got, want) {
		t.Errorf("%s of %v = %v, %v, not %v, %v", call, args, got, ok, want, wantOk)
	}
}

func TestWithRange(t *testing.T) {
	for _, low := range stepInts(maxInput) {
		for _, high := range stepInts(maxInput) {
			want := roomWith(func(r *impl.Room) { r.Low, r.High = low, high })
			wantOk := -maxInput <= low && low <= high && high <= maxInput
			got, ok := impl.WithRange(someRoom(), low, high)
			checkRoom(t, "WithRange", []any{low, high}, got, ok, want, wantOk)
		}
	}
	for _, r := range goodRooms() {
		for _, ends := range [][2]int{{-8, 9}, {0, 0}, {-1000, 1000}, {1000, 1000}, {2, 1}, {-1001, 0}, {0, 1001}} {
			want := r
			want.Low, want.High = ends[0], ends[1]
			got, ok := impl.WithRange(r, ends[0], ends[1])
			checkRoom(t, "WithRange", []any{r, ends}, got, ok, want, validRoomByBig(want))
		}
		got, ok := impl.WithRange(r, r.Low, r.High)
		checkRoom(t, "WithRange", r, got, ok, r, true)
	}
	// Also those that a valid range would make valid.
	for _, r := range wrongRooms() {
		for _, ends := range [][2]int{{0, 0}, {-8, 9}, {-1000, 1000}, {1, 0}} {
			got, ok := impl.WithRange(r, ends[0], ends[1])
			checkRoom(t, "WithRange", []any{r, ends}, got, ok, impl.Room{}, false)
		}
	}
}

func TestWithNoise(t *testing.T) {
	for _, p := range append(movable(32, 10), boxOf(-1, -2, 1, 2), boxOf(900, 900, 999, 999)) {
		want := roomWith(func(r *impl.Room) { r.Noise = p })
		got, ok := impl.WithNoise(someRoom(), p)
		checkRoom(t, "WithNoise", p, got, ok, want, len(p.Halves) > 0)
	}
	for _, p := range slices.Concat(voidRegions(), wrongRegions(), []impl.Region{boxOf(0, 0, 0, 0), boxOf(2, -1, 2, 1), {Halves: make([]impl.Half, 100000)}}) {
		got, ok := impl.WithNoise(someRoom(), p)
		checkRoom(t, "WithNoise", p, got, ok, impl.Room{}, false)
	}
	for _, r := range goodRooms() {
		want := r
		want.Noise = fractions()
		got, ok := impl.WithNoise(r, fractions())
		checkRoom(t, "WithNoise", r, got, ok, want, true)
		got, ok = impl.WithNoise(r, r.Noise)
		checkRoom(t, "WithNoise", r, got, ok, r, true)
		got, ok = impl.WithNoise(r, impl.Region{})
		checkRoom(t, "WithNoise", r, got, ok, impl.Room{}, false)
	}
	// Also those that valid disturbances would make valid.
	for _, r := range wrongRooms() {
		for _, p := range []impl.Region{boxOf(-1, -2, 1, 2), fractions(), {}} {
			got, ok := impl.WithNoise(r, p)
			checkRoom(t, "WithNoise", []any{r, p}, got, ok, impl.Room{}, false)
		}
	}
}

// roomWithSpare returns a room with the same elements and with marks behind all of its lists.
func roomWithSpare(r impl.Room) impl.Room {
	r.Map = append(slices.Clone(r.Map), 91, 92, 93, 94, 95)[:len(r.Map)]
	r.Noise.Halves, r.Limits.Halves = withSpare(r.Noise.Halves), withSpare(r.Limits.Halves)
	return r
}

func roomClipped(r impl.Room) impl.Room {
	r.Map = slices.Clip(slices.Clone(r.Map))
	r.Noise.Halves, r.Limits.Halves = slices.Clip(slices.Clone(r.Noise.Halves)), slices.Clip(slices.Clone(r.Limits.Halves))
	return r
}

func isRoomUntouched(arg impl.Room, r impl.Room) bool {
	spare := arg.Map[len(arg.Map) : len(arg.Map)+5]
	return sameByText(arg, r) && slices.Equal(spare, []int{91, 92, 93, 94, 95}) &&
		isUntouched(arg.Noise.Halves, r.Noise.Halves) && isUntouched(arg.Limits.Halves, r.Limits.Halves)
}

// roomChanges are all functions that take a room to another one.
func roomChanges() map[string]func(r impl.Room) (impl.Room, bool) {
	return map[string]func(r impl.Room) (impl.Room, bool){
		"range":                   func(r impl.Room) (impl.Room, bool) { return impl.WithRange(r, -3, 4) },
		"same range":              func(r impl.Room) (impl.Room, bool) { return impl.WithRange(r, r.Low, r.High) },
		"range not valid":         func(r impl.Room) (impl.Room, bool) { return impl.WithRange(r, 1, 0) },
		"noise":                   func(r impl.Room) (impl.Room, bool) { return impl.WithNoise(r, fractions()) },
		"same noise":              func(r impl.Room) (impl.Room, bool) { return impl.WithNoise(r, r.Noise) },
		"limits as noise":         func(r impl.Room) (impl.Room, bool) { return impl.WithNoise(r, r.Limits) },
		"noise that is not valid": func(r impl.Room) (impl.Room, bool) { return impl.WithNoise(r, boxOf(1, 0, 0, 1)) },
	}
}

// manyRooms are fewer than all of them, but of every kind.
func manyRooms() []impl.Room {
	wrong := slices.DeleteFunc(wrongRooms(), func(r impl.Room) bool { return len(r.Noise.Halves) > 1000 || len(r.Limits.Halves) > 1000 })
	return append(goodRooms(), wrong...)
}

func TestRoomsLeaveTheirArguments(t *testing.T) {
	for _, r := range manyRooms() {
		arg, clipped := roomWithSpare(r), roomClipped(r)
		for name, change := range roomChanges() {
			got, ok := change(arg)
			// The spare capacity behind an argument does not count, whatever it holds.
			want, wantOk := change(clipped)
			checkRoom(t, name, r, got, ok, want, wantOk)
		}
		if impl.RoomOk(arg) != impl.RoomOk(clipped) || !impl.SameRooms(arg, clipped) || !impl.SameRooms(clipped, arg) || impl.CentreInput(arg) != impl.CentreInput(clipped) {
			t.Errorf("%v is not the same with spare capacity", r)
		}
		s, u := impl.Spot{X: 1, Y: 2, D: 3}, impl.Ratio{N: 1, D: 2}
		next, found := impl.NextSpot(clipped, s, u, s)
		checkNext(t, "spare", arg, s, u, s, next, found)
		checkInput(t, arg, u, impl.IsInput(clipped, u))
		if !isRoomUntouched(arg, r) {
			t.Errorf("%v is changed to %v", r, arg)
		}
		noise := withSpare(r.Noise.Halves)
		impl.WithNoise(someRoom(), impl.Region{Halves: noise})
		impl.WithNoise(arg, impl.Region{Halves: noise})
		if !isUntouched(noise, r.Noise.Halves) {
			t.Errorf("%v is changed to %v", r.Noise, noise)
		}
	}
}

// scribbleEach overwrites each list of a room in turn, and calls check after each one.
func scribbleEach(r impl.Room, check func()) {
	for _, wipe := range []func(){
		func() { scribble(r.Map) },
		func() { scribble(r.Noise.Halves) },
		func() { scribble(r.Limits.Halves) },
	} {
		wipe()
		check()
	}
}

func TestRoomsAreNewEachTime(t *testing.T) {
	for name, change := range roomChanges() {
		for _, r := range goodRooms() {
			arg := roomWithSpare(r)
			first, _ := change(arg)
			second, _ := change(arg)
			want := roomClipped(first)
			scribbleEach(first, func() {
				if !isRoomUntouched(arg, r) || !sameByText(second, want) {
					t.Errorf("%s: a result for %v shares memory", name, r)
				}
			})
			scribbleEach(arg, func() {
				if !sameByText(second, want) {
					t.Errorf("%s: a result for %v shares memory with its argument", name, r)
				}
			})
		}
	}
}

// Even if the lists of the arguments share memory, those of the result do not.
func TestListsOfRoomsAreApart(t *testing.T) {
	shared := withSpare(boxAnd(-1, -1, 1, 1))
	arg := roomWith(func(r *impl.Room) { r.Noise.Halves, r.Limits.Halves = shared, shared })
	results := map[string]func() (impl.Room, bool){
		"range":              func() (impl.Room, bool) { return impl.WithRange(arg, 0, 0) },
		"noise":              func() (impl.Room, bool) { return impl.WithNoise(arg, arg.Noise) },
		"noise as limits":    func() (impl.Room, bool) { return impl.WithNoise(someRoom(), arg.Limits) },
		"limits as noise":    func() (impl.Room, bool) { return impl.WithNoise(arg, impl.Region{Halves: shared}) },
		"a part of a shared": func() (impl.Room, bool) { return impl.WithNoise(arg, impl.Region{Halves: shared[:4:4]}) },
	}
	for name, result := range results {
		got, ok := result()
		if !ok {
			t.Errorf("%s: no room", name)
		}
		want := roomClipped(got)
		scribble(got.Noise.Halves)
		if !slices.Equal(got.Limits.Halves, want.Limits.Halves) {
			t.Errorf("%s: Limits share memory with Noise", name)
		}
		if !isUntouched(shared, boxAnd(-1, -1, 1, 1)) {
			t.Errorf("%s: the result shares memory with its argument", name)
		}
		got, _ = result()
		if !sameByText(got, want) {
			t.Errorf("%s: %v became %v", name, want, got)
		}
	}
}

// A noise that is changed afterwards does not change the room, and the reverse.
func TestNoiseIsApart(t *testing.T) {
	for _, p := range []impl.Region{boxOf(-1, -2, 1, 2), fractions(), lattice(40, 300, 5)} {
		noise := impl.Region{Halves: withSpare(p.Halves)}
		got, _ := impl.WithNoise(someRoom(), noise)
		scribble(got.Noise.Halves)
		if !isUntouched(noise.Halves, p.Halves) {
			t.Errorf("%v is changed to %v", p, noise)
		}
		got, _ = impl.WithNoise(someRoom(), noise)
		scribble(noise.Halves)
		if !slices.Equal(got.Noise.Halves, p.Halves) {
			t.Errorf("%v is changed to %v", p, got.Noise)
		}
	}
}
