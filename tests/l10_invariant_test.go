package tests

import (
	"math"
	"math/big"
	"math/rand/v2"
	"slices"
	"testing"

	"loop.example/g00832/impl"
)

const maxRounds = 12

// history is what the rounds make of Limits: the region after each round up to the first one that changes nothing or fails.
// No function asks for more than MaxRounds + 1 of them.
type history struct {
	regions []impl.Region
	// fails says that the round after the last region fails, and not that it changes nothing.
	fails bool
}

// historyByBig is for valid rooms alone.
func historyByBig(r impl.Room) history {
	h := history{regions: []impl.Region{r.Limits}}
	for len(h.regions) <= maxRounds+1 {
		last := h.regions[len(h.regions)-1]
		next, ok := keepByBig(r, last)
		if !ok {
			h.fails = true
			break
		}
		if slices.Equal(next.Halves, last.Halves) {
			break
		}
		h.regions = append(h.regions, next)
	}
	return h
}

func (h history) at(rounds int) (impl.Region, bool) {
	switch last := len(h.regions) - 1; {
	case rounds <= last:
		return h.regions[rounds], true
	case h.fails:
		return impl.Region{}, false
	default:
		return h.regions[last], true
	}
}

func (h history) after(rounds int) (impl.Kept, bool) {
	if !within(rounds, 0, maxRounds) {
		return impl.Kept{}, false
	}
	p, ok := h.at(rounds)
	if !ok {
		return impl.Kept{}, false
	}
	last := len(h.regions) - 1
	return impl.Kept{Region: p, Rounds: min(rounds, last), Stopped: rounds > last}, true
}

func (h history) loss(rounds int) (impl.Ratio, bool) {
	if !within(rounds, 0, maxRounds) {
		return impl.Ratio{}, false
	}
	p, ok := h.at(rounds)
	next, nextOk := h.at(rounds + 1)
	if !ok || !nextOk || len(p.Halves) == 0 || len(next.Halves) == 0 {
		return impl.Ratio{}, false
	}
	most := slices.MaxFunc(lossesByBig(p, next), (*big.Rat).Cmp)
	return ratioOfRat(most)
}

// lossesByBig returns for each half plane of next how far p reaches beyond it.
func lossesByBig(p impl.Region, next impl.Region) []*big.Rat {
	var list []*big.Rat
	for _, edge := range next.Halves {
		reach, _ := farthestByBig(p, edge.A, edge.B)
		beyond := reach.Sub(reach, whole(edge.C))
		list = append(list, beyond.Quo(beyond, whole(max(edge.A, -edge.A)+max(edge.B, -edge.B))))
	}
	return list
}

func checkRounds(t *testing.T, name string, r impl.Room, rounds int, want impl.Kept, wantOk bool) {
	t.Helper()
	got, ok := impl.RunRounds(r, rounds)
	if !slices.Equal(got.Region.Halves, want.Region.Halves) || got.Rounds != want.Rounds || got.Stopped != want.Stopped || ok != wantOk {
		t.Errorf("%s: RunRounds(%v, %d) = %v, %v, want %v, %v", name, r, rounds, got, ok, want, wantOk)
	}
}

func checkLoss(t *testing.T, name string, r impl.Room, rounds int, want impl.Ratio, wantOk bool) {
	t.Helper()
	got, ok := impl.LossOf(r, rounds)
	checkRatio(t, "LossOf: "+name, []any{r, rounds}, got, ok, want, wantOk)
}

// checkStop checks what all rounds lead to; rounds is -1 if there is no kept region.
func checkStop(t *testing.T, name string, r impl.Room, want impl.Region, rounds int) {
	t.Helper()
	got, ok := impl.KeptRegion(r)
	checkRegion(t, "KeptRegion: "+name, r, got, ok, want, rounds >= 0)
	if got := impl.RoundsOf(r); got != rounds {
		t.Errorf("%s: RoundsOf(%v) = %d, want %d", name, r, got, rounds)
	}
}

func checkCan(t *testing.T, name string, r impl.Room, s impl.Spot, want bool) {
	t.Helper()
	if got := impl.CanBeKept(r, s); got != want {
		t.Errorf("%s: CanBeKept(%v, %v) = %v", name, r, s, got)
	}
}

// wrongRounds are just beyond the limits and far beyond them.
func wrongRounds() []int {
	list := []int{-1, -2, -11, -12, -13, maxRounds + 1, maxRounds + 2, 100, 1 << 32, 1<<32 + 1, 1<<32 + 12, 1<<63 - 13}
	return append(list, math.MinInt, math.MinInt+1, math.MinInt+12, math.MaxInt, math.MaxInt-1)
}

// checkHistory checks everything that follows from the rounds, whatever their number.
func checkHistory(t *testing.T, name string, r impl.Room, h history) {
	t.Helper()
	for rounds := 0; rounds <= maxRounds; rounds++ {
		want, wantOk := h.after(rounds)
		checkRounds(t, name, r, rounds, want, wantOk)
		loss, lossOk := h.loss(rounds)
		checkLoss(t, name, r, rounds, loss, lossOk)
	}
	for _, rounds := range wrongRounds() {
		checkRounds(t, name, r, rounds, impl.Kept{}, false)
		checkLoss(t, name, r, rounds, impl.Ratio{}, false)
	}
	last, ok := h.after(maxRounds)
	if !ok || !last.Stopped {
		checkStop(t, name, r, impl.Region{}, -1)
		checkCan(t, name, r, impl.Spot{D: 1}, false)
		return
	}
	checkStop(t, name, r, last.Region, last.Rounds)
	checkCan(t, name, r, impl.Spot{D: 1}, len(last.Region.Halves) > 0 && liesInAll(last.Region.Halves, impl.Spot{D: 1}))
}

// checkRefusedRoom checks that a room that is not valid has no result at all.
func checkRefusedRoom(t *testing.T, name string, r impl.Room) {
	t.Helper()
	for _, rounds := range append(wrongRounds(), 0, 1, 2, maxRounds-1, maxRounds) {
		checkRounds(t, name, r, rounds, impl.Kept{}, false)
		checkLoss(t, name, r, rounds, impl.Ratio{}, false)
	}
	checkStop(t, name, r, impl.Region{}, -1)
	for _, s := range []impl.Spot{{D: 1}, {X: 1, Y: 2, D: 3}, {}, {X: math.MinInt, D: 1}} {
		checkCan(t, name, r, s, false)
	}
}

func TestRoundsLimit(t *testing.T) {
	if impl.MaxRounds != maxRounds {
		t.Errorf("MaxRounds = %d", impl.MaxRounds)
	}
}

// shrinkingRoom loses 1 at each side of Limits in each round, and has nothing left after w of them.
func shrinkingRoom(w int) impl.Room {
	return changed(plainRoom(0, 0), func(r *impl.Room) { r.Limits = boxOf(-w, -w-3, w, w+3) })
}

func shrinkingHistory(w int) history {
	var h history
	for k := 0; k <= w && k <= maxRounds+1; k++ {
		p := boxOf(k-w, k-w-3, w-k, w-k+3)
		if k == w {
			p = impl.Region{}
		}
		h.regions = append(h.regions, p)
	}
	return h
}

// brakingRoom has a position x and a velocity y of at most v, which can be reduced by 1 in a period. It takes v + 1 rounds
// to find all states from which the position gets too great.
func brakingRoom(v int) impl.Room {
	return impl.Room{Map: []int{1, 1, 0, 1}, Div: 1, By: 1, Low: -2, High: 2, Noise: boxOf(0, 0, 1, 1), Limits: boxOf(-100, -2, 100, v)}
}

// brakingHistory has a further half plane in each round: the position after so many periods with the greatest disturbance.
func brakingHistory(v int) history {
	h := history{regions: []impl.Region{boxOf(-100, -2, 100, v)}}
	for k := 1; k <= v+1 && k <= maxRounds+1; k++ {
		var halves []impl.Half
		for j := 0; j <= k; j++ {
			halves = append(halves, impl.Half{A: 1, B: j, C: 100 + j*(j-3)/2})
		}
		// With a velocity below 0, the position must not be the least one.
		halves = append(halves, impl.Half{B: 1, C: v}, impl.Half{A: -1, C: 100}, impl.Half{A: -1, B: -1, C: 100}, impl.Half{B: -1, C: 2})
		h.regions = append(h.regions, impl.Region{Halves: halves})
	}
	return h
}

// growingRoom multiplies x by g, and the inputs lead back to about 5. Limits go up to 5 + 1/d, and each round divides what is
// beyond 5 by g, so that the half planes are valid as long as d times a power of g is at most MaxCoef.
func growingRoom(g int, d int) impl.Room {
	return impl.Room{Map: []int{2 * g, 0, 0, 1}, Div: 2, Bx: 1, Low: 4 - 5*g, High: 5*g - 4, Noise: boxOf(-1, -1, 1, 1), Limits: nearlyFive(d)}
}

func nearlyFive(d int) impl.Region {
	return impl.Region{Halves: []impl.Half{{A: d, C: 5*d + 1}, {B: 1, C: 9}, {A: -d, C: 5*d + 1}, {B: -1, C: 9}}}
}

func growingHistory(g int, d int) history {
	h := history{fails: true}
	for len(h.regions) <= maxRounds+1 && d <= maxCoef {
		h.regions = append(h.regions, nearlyFive(d))
		d *= g
	}
	return h
}

type historyCase struct {
	name string
	r    impl.Room
	h    history
}

// familyCases stop after any number of rounds, with a region or with none, or fail in any of them, or in none.
func familyCases() []historyCase {
	list := []historyCase{{"kept at once", halvingRoom(), history{regions: []impl.Region{halvingRoom().Limits}}}}
	for w := 1; w <= maxRounds+3; w++ {
		list = append(list, historyCase{"shrinking", shrinkingRoom(w), shrinkingHistory(w)})
	}
	for v := 1; v <= maxRounds+2; v++ {
		list = append(list, historyCase{"braking", brakingRoom(v), brakingHistory(v)})
	}
	for g := 2; g <= 10; g++ {
		list = append(list, historyCase{"growing", growingRoom(g, 1), growingHistory(g, 1)})
	}
	// The first of these fail in the first round, the last ones in none.
	for _, d := range []int{50000, 25001, 25000, 12501, 12500, 6250, 3125, 1562, 781, 390, 195, 97, 48, 25, 24, 13, 12, 7, 6, 5} {
		list = append(list, historyCase{"growing from a fraction", growingRoom(2, d), growingHistory(2, d)})
	}
	return list
}

func TestRoundsOfFamilies(t *testing.T) {
	for _, c := range familyCases() {
		if !validRoomByBig(c.r) {
			t.Errorf("%s: %v is not valid", c.name, c.r)
		}
		checkHistory(t, c.name, c.r, c.h)
		// The cases also show that the calculation used for the sweeps is right.
		h := historyByBig(c.r)
		if h.fails != c.h.fails && len(c.h.regions) <= maxRounds+1 || !slices.EqualFunc(h.regions, c.h.regions, impl.SameRegion) {
			t.Errorf("historyByBig: %s: %v has %v", c.name, c.r, h)
		}
	}
}

// The families reach every ending of the rounds at every number of them that matters.
func TestFamiliesReachAllEndings(t *testing.T) {
	stops, voids, fails, open := map[int]bool{}, map[int]bool{}, map[int]bool{}, 0
	for _, c := range familyCases() {
		last := len(c.h.regions) - 1
		switch {
		case last > maxRounds:
			open++
		case c.h.fails:
			fails[last+1] = true
		case len(c.h.regions[last].Halves) == 0:
			voids[last] = true
		default:
			stops[last] = true
		}
	}
	for n := 1; n <= maxRounds; n++ {
		if !stops[n] && n > 1 || !voids[n] || !fails[n] {
			t.Errorf("%d rounds: %v, %v, %v", n, stops[n], voids[n], fails[n])
		}
	}
	if !stops[0] || !fails[maxRounds+1] || open < 6 {
		t.Errorf("%v, %v, %d", stops, fails, open)
	}
}

// leaningRoom has edges in many directions, and corners at fractions.
func leaningRoom() impl.Room {
	return impl.Room{Map: []int{1, -1, -1, -2}, Div: 2, Bx: -1, By: 2, Low: -6, High: 1, Noise: boxOf(-1, -1, 1, 1), Limits: boxOf(-10, -27, 20, 35)}
}

type runCase struct {
	name   string
	r      impl.Room
	rounds int
	want   impl.Kept
	loss   impl.Ratio
	lossOk bool
}

func runCases() []runCase {
	strong := halvingRoom()
	weak := changed(strong, func(r *impl.Room) { r.Low, r.High = 0, 0 })
	double := changed(plainRoom(1, 0), func(r *impl.Room) {
		r.Map, r.Low, r.High, r.Limits = []int{2, 0, 0, 2}, -1000, 1000, impl.Region{Halves: frameList()}
	})
	within := func(r impl.Room, p impl.Region) impl.Room { return changed(r, func(r *impl.Room) { r.Limits = p }) }
	void, none, zero, one := impl.Region{}, impl.Ratio{}, impl.Ratio{D: 1}, impl.Ratio{N: 1, D: 1}
	frame := impl.Region{Halves: frameList()}
	upper := func(c int, d int) impl.Region {
		return impl.Region{Halves: []impl.Half{{A: 1, C: 500}, {B: d, C: c}, {A: -1, C: 500}, {B: -d, C: c}}}
	}
	leaning := leaningRoom()
	left := impl.Region{Halves: []impl.Half{{A: 1, C: 20}, {A: 1, B: 2, C: 56}, {A: 4, B: 11, C: 290}, {A: -5, B: 20, C: 434}, {A: -1, C: 10},
		{A: -1, B: -5, C: 142}, {B: -1, C: 27}, {A: 1, B: -4, C: 110}, {A: 1, B: -1, C: 40}}}
	return []runCase{
		{"kept at once, no round", strong, 0, impl.Kept{Region: strong.Limits}, zero, true},
		{"kept at once, one round", strong, 1, impl.Kept{Region: strong.Limits, Stopped: true}, zero, true},
		{"kept at once, all rounds", strong, 12, impl.Kept{Region: strong.Limits, Stopped: true}, zero, true},
		{"the whole frame", meetRoom(), 12, impl.Kept{Region: frame, Stopped: true}, zero, true},
		{"weak, no round", weak, 0, impl.Kept{Region: weak.Limits}, one, true},
		{"weak, one round", weak, 1, impl.Kept{Region: boxOf(-4, -9, 4, 9), Rounds: 1}, one, true},
		{"weak, three rounds", weak, 3, impl.Kept{Region: boxOf(-2, -9, 2, 9), Rounds: 3}, one, true},
		{"weak, the last one with a region", weak, 4, impl.Kept{Region: boxOf(-1, -9, 1, 9), Rounds: 4}, none, false},
		{"weak, the first one without a region", weak, 5, impl.Kept{Region: void, Rounds: 5}, none, false},
		{"weak, and then it stays void", weak, 6, impl.Kept{Region: void, Rounds: 5, Stopped: true}, none, false},
		{"weak, all rounds", weak, 12, impl.Kept{Region: void, Rounds: 5, Stopped: true}, none, false},
		{"void at once, no round", within(weak, boxOf(-1, -9, 1, 9)), 0, impl.Kept{Region: boxOf(-1, -9, 1, 9)}, none, false},
		{"void at once, one round", within(weak, boxOf(-1, -9, 1, 9)), 1, impl.Kept{Region: void, Rounds: 1}, none, false},
		{"void at once, two rounds", within(weak, boxOf(-1, -9, 1, 9)), 2, impl.Kept{Region: void, Rounds: 1, Stopped: true}, none, false},
		{"void in the last round", shrinkingRoom(12), 12, impl.Kept{Region: void, Rounds: 12}, none, false},
		{"void in the last round but one", shrinkingRoom(11), 12, impl.Kept{Region: void, Rounds: 11, Stopped: true}, none, false},
		{"void one round later", shrinkingRoom(13), 12, impl.Kept{Region: boxOf(-1, -4, 1, 4), Rounds: 12}, none, false},
		{"void two rounds later", shrinkingRoom(14), 12, impl.Kept{Region: boxOf(-2, -5, 2, 5), Rounds: 12}, one, true},
		{"leaning, no round", leaning, 0, impl.Kept{Region: leaning.Limits}, impl.Ratio{N: 62, D: 5}, true},
		{"leaning, two rounds", leaning, 2, historyByBigAt(leaning, 2), impl.Ratio{N: 2, D: 5}, true},
		{"leaning, three rounds", leaning, 3, impl.Kept{Region: left, Rounds: 3}, zero, true},
		{"leaning, four rounds", leaning, 4, impl.Kept{Region: left, Rounds: 3, Stopped: true}, zero, true},
		{"out of the frame, no round", double, 0, impl.Kept{Region: frame}, impl.Ratio{N: 1001, D: 2}, true},
		{"out of the frame, one round", double, 1, impl.Kept{Region: upper(999, 2), Rounds: 1}, impl.Ratio{N: 1001, D: 4}, true},
		{"out of the frame, two rounds", double, 2, impl.Kept{Region: upper(997, 4), Rounds: 2}, impl.Ratio{N: 1001, D: 8}, true},
	}
}

// historyByBigAt returns what has no short form.
func historyByBigAt(r impl.Room, rounds int) impl.Kept {
	k, _ := historyByBig(r).after(rounds)
	return k
}

func TestRunRounds(t *testing.T) {
	for _, c := range runCases() {
		checkRounds(t, c.name, c.r, c.rounds, c.want, true)
		checkLoss(t, c.name, c.r, c.rounds, c.loss, c.lossOk)
		// The cases also show that the calculation used for the sweeps is right.
		h := historyByBig(c.r)
		checkHistory(t, c.name, c.r, h)
		if loss, ok := h.loss(c.rounds); loss != c.loss || ok != c.lossOk {
			t.Errorf("history: the loss of %s is %v, %v", c.name, loss, ok)
		}
	}
}

type lossCase struct {
	name   string
	limits impl.Region
	noise  impl.Region
	// at is the index of the half plane with the greatest loss.
	at   int
	want impl.Ratio
}

func lossCases() []lossCase {
	box, around := boxOf(-50, -60, 70, 80), boxOf(-1, -1, 1, 1)
	three := regionOf(impl.Half{A: 3, B: 4, C: 60}, impl.Half{A: -3, B: 1, C: 60}, impl.Half{A: 1, B: -5, C: 60})
	turned := regionOf(impl.Half{A: 5, B: 1, C: 60}, impl.Half{A: -4, B: 3, C: 60}, impl.Half{A: -1, B: -3, C: 60})
	mirrored := regionOf(impl.Half{A: 1, B: 3, C: 60}, impl.Half{A: -5, B: 1, C: 60}, impl.Half{A: 3, B: -4, C: 60})
	level := regionOf(impl.Half{A: 3, B: 4, C: 60}, impl.Half{A: -3, B: 1, C: 60}, impl.Half{B: -1, C: 60})
	quarter := regionOf(impl.Half{A: 2, C: 1}, impl.Half{B: 4, C: 1}, impl.Half{A: -4, C: 1}, impl.Half{B: -4, C: 1})
	oblique := regionOf(impl.Half{A: 1, B: 1, C: 2}, impl.Half{A: -1, C: 1}, impl.Half{B: -1, C: 1})
	ratio := func(n int, d int) impl.Ratio { return impl.Ratio{N: n, D: d} }
	return []lossCase{
		{"to the right", box, boxOf(-1, -2, 5, 3), 0, ratio(5, 1)},
		{"upwards", box, boxOf(-1, -2, 3, 5), 1, ratio(5, 1)},
		{"to the left", box, boxOf(-5, -2, 3, 1), 2, ratio(5, 1)},
		{"downwards", box, boxOf(-2, -5, 3, 1), 3, ratio(5, 1)},
		{"away from the origin", box, boxOf(4, 1, 6, 2), 0, ratio(6, 1)},
		{"away from the origin to the left", box, boxOf(-6, 1, -4, 2), 2, ratio(6, 1)},
		{"half a unit", box, quarter, 0, ratio(1, 2)},
		{"aslant by a box", impl.Region{Halves: diamond(30)}, boxOf(-1, -1, 2, 3), 0, ratio(5, 2)},
		{"aslant by a box to the left", impl.Region{Halves: diamond(30)}, boxOf(-4, -1, 2, 3), 1, ratio(7, 2)},
		{"aslant by a box downwards", impl.Region{Halves: diamond(30)}, boxOf(-1, -6, 2, 3), 3, ratio(4, 1)},
		{"aslant", impl.Region{Halves: diamond(30)}, impl.Region{Halves: diamond(1)}, 0, ratio(1, 2)},
		{"the last of three", three, impl.Region{Halves: diamond(1)}, 2, ratio(5, 6)},
		{"the first of three", turned, impl.Region{Halves: diamond(1)}, 0, ratio(5, 6)},
		{"the second of three", mirrored, impl.Region{Halves: diamond(1)}, 1, ratio(5, 6)},
		{"by a disturbance aslant", three, oblique, 1, ratio(3, 2)},
		{"all the same", box, around, 0, ratio(1, 1)},
		{"all the same aslant", three, around, 0, ratio(1, 1)},
		{"the second and the last of three", level, boxOf(-1, -1, 0, 1), 1, ratio(1, 1)},
	}
}

// Without any input, each half plane is moved by as much as the disturbances reach in its direction.
func TestLossOf(t *testing.T) {
	for _, c := range lossCases() {
		r := changed(plainRoom(0, 0), func(r *impl.Room) { r.Limits, r.Noise = c.limits, c.noise })
		if !validRoomByBig(r) {
			t.Errorf("%s: %v is not valid", c.name, r)
		}
		checkLoss(t, c.name, r, 0, c.want, true)
		h := historyByBig(r)
		checkHistory(t, c.name, r, h)
		losses := lossesByBig(h.regions[0], h.regions[1])
		if most := slices.MaxFunc(losses, (*big.Rat).Cmp); losses[c.at].Cmp(most) != 0 || most.Cmp(bigRat(c.want)) != 0 {
			t.Errorf("%s: the losses are %v", c.name, losses)
		}
	}
}

// Each round of a braking room adds one half plane, at which the loss is the greatest.
func TestLossOfFamilies(t *testing.T) {
	for v := 1; v <= maxRounds+2; v++ {
		for k := 0; k <= maxRounds; k++ {
			checkLoss(t, "braking", brakingRoom(v), k, impl.RatioOf(max(v+1-k, 0), k+2), true)
		}
		last := min(v, maxRounds)
		losses := lossesByBig(brakingHistory(v).regions[last], brakingHistory(v).regions[last+1])
		if losses[last+1].Sign() <= 0 || slices.ContainsFunc(slices.Delete(losses, last+1, last+2), func(n *big.Rat) bool { return n.Sign() != 0 }) {
			t.Errorf("the losses of the last round of %d are %v", v, losses)
		}
	}
	for g := 2; g <= 10; g++ {
		for k, next := 0, g; next <= maxCoef && k <= maxRounds; k, next = k+1, next*g {
			checkLoss(t, "growing", growingRoom(g, 1), k, impl.Ratio{N: g - 1, D: next}, true)
		}
	}
	for w := 2; w <= maxRounds+3; w++ {
		for k := 0; k <= maxRounds; k++ {
			if k < w-1 {
				checkLoss(t, "shrinking", shrinkingRoom(w), k, impl.Ratio{N: 1, D: 1}, true)
			} else {
				checkLoss(t, "shrinking", shrinkingRoom(w), k, impl.Ratio{}, false)
			}
		}
	}
}

// These rooms turn the half planes of Limits by an eighth of a turn, so that corners and directions have nothing in common.
func TestLossOfGreatNumbers(t *testing.T) {
	source := rand.New(rand.NewPCG(10, 1))
	odd := func(most int) int { return most - 2*source.IntN(1000) }
	side := func(a int, b int) impl.Half { return impl.Half{A: a, B: b, C: source.IntN(20000000)} }
	great := 0
	for range 300 {
		limits := regionOf(side(odd(maxCoef-1), odd(30001)), side(-odd(30001), odd(maxCoef-1)), side(-odd(maxCoef-1), odd(maxCoef-1)),
			side(-odd(maxCoef-1), -odd(maxCoef-1)), side(odd(maxCoef-1), -odd(maxCoef-1)))
		r := changed(plainRoom(0, 0), func(r *impl.Room) { r.Map, r.Div, r.Limits = []int{1, 1, -1, 1}, 2, limits })
		if source.IntN(2) == 0 {
			r.Map = []int{1, -1, 1, 1}
		}
		if !validRoomByBig(r) {
			continue
		}
		next, nextOk := keepByBig(r, limits)
		h := history{regions: []impl.Region{limits, next}}
		if !nextOk {
			h = history{regions: h.regions[:1], fails: true}
		}
		want, wantOk := h.loss(0)
		checkLoss(t, "great numbers", r, 0, want, wantOk)
		if want.D > maxDiv/10 && want.N > maxNum/1000 {
			great++
		}
	}
	if great < 10 {
		t.Errorf("only %d great fractions", great)
	}
}

// canCases tell spots of the kept region from others.
func canCases() []spotCase {
	strong, leaning, braking := halvingRoom(), leaningRoom(), brakingRoom(5)
	at := func(x int, y int, d int) impl.Spot { return impl.Spot{X: x, Y: y, D: d} }
	return []spotCase{
		{"the origin", strong, at(0, 0, 1), true},
		{"inside", strong, at(3, -7, 2), true},
		{"on an edge", strong, at(5, 0, 1), true},
		{"on an edge at a fraction", strong, at(-15, 7, 3), true},
		{"at a corner", strong, at(5, 9, 1), true},
		{"at another corner", strong, at(-5, -9, 1), true},
		{"just inside", strong, at(5*maxDen-1, 0, maxDen), true},
		{"just outside to the right", strong, at(5*maxDen+1, 0, maxDen), false},
		{"just outside to the left", strong, at(-5*maxDen-1, 0, maxDen), false},
		{"just outside upwards", strong, at(1, 9*maxDen+1, maxDen), false},
		{"just outside downwards", strong, at(1, -9*maxDen-1, maxDen), false},
		{"outside", strong, at(6, 0, 1), false},
		{"at the border of the frame", strong, at(1000, 1000, 1), false},
		{"beyond the frame", strong, at(1001, 0, 1), false},
		{"in Limits and kept", leaning, at(20, 18, 1), true},
		{"in Limits and not kept", leaning, at(20, 19, 1), false},
		{"a corner of Limits", leaning, at(20, 35, 1), false},
		{"a corner at a fraction", leaning, at(38, 118, 5), true},
		{"next to a corner at a fraction", leaning, at(38, 119, 5), false},
		{"next to a corner to the right", leaning, at(38*maxDen/5+1, 118*maxDen/5, maxDen), false},
		{"next to a corner downwards", leaning, at(38*maxDen/5, 118*maxDen/5-1, maxDen), true},
		{"at the last edge of the last round", leaning, at(49, 114, 5), true},
		{"beyond the last edge of the last round", leaning, at(49, 115, 5), false},
		{"kept in the round before the last one", leaning, at(8, 24, 1), false},
		{"the greatest velocity", braking, at(79, 5, 1), true},
		{"too near for the greatest velocity", braking, at(80, 5, 1), false},
		{"too near by a little", braking, at(79*maxDen+1, 5*maxDen, maxDen), false},
		{"the greatest position", braking, at(100, -1, 1), true},
		{"the greatest position without a velocity", braking, at(100, 0, 1), false},
	}
}

type spotCase struct {
	name string
	r    impl.Room
	s    impl.Spot
	want bool
}

func TestCanBeKept(t *testing.T) {
	for _, c := range canCases() {
		checkCan(t, c.name, c.r, c.s, c.want)
	}
	for _, r := range []impl.Room{halvingRoom(), leaningRoom(), brakingRoom(7), meetRoom()} {
		last, ok := historyByBig(r).after(maxRounds)
		if !ok || !last.Stopped || len(last.Region.Halves) == 0 {
			t.Errorf("%v has no kept region", r)
		}
		for _, s := range append(spotsNear(last.Region), spotsNear(r.Limits)...) {
			checkCan(t, "near", r, s, liesInAll(last.Region.Halves, s))
		}
	}
}

func TestCanBeKeptInvalidSpots(t *testing.T) {
	for _, r := range []impl.Room{halvingRoom(), leaningRoom(), meetRoom(), brakingRoom(3)} {
		for _, s := range invalidSpots() {
			checkCan(t, "spot not valid", r, s, false)
		}
		last, _ := historyByBig(r).after(maxRounds)
		for _, n := range edgeInts() {
			for _, m := range []int{0, 1, 2} {
				for _, s := range []impl.Spot{{X: n, Y: m, D: 1}, {X: m, Y: n, D: 1}, {X: 1, Y: m, D: n}, {X: n, Y: n, D: n}} {
					checkCan(t, "spot", r, s, validSpotByBig(s) && liesInAll(last.Region.Halves, s))
				}
			}
		}
	}
}

// Where all rounds lead to no region, to one that might change, or fail, no spot can be kept.
func TestCanBeKeptNone(t *testing.T) {
	list := []impl.Room{shrinkingRoom(1), shrinkingRoom(5), shrinkingRoom(11), shrinkingRoom(12), shrinkingRoom(13), shrinkingRoom(15), brakingRoom(11), brakingRoom(12),
		brakingRoom(14), growingRoom(2, 1), growingRoom(2, 12), growingRoom(2, 24), growingRoom(2, 50000), growingRoom(3, 1), growingRoom(10, 1)}
	for _, r := range list {
		for _, s := range append(spotsNear(r.Limits), invalidSpots()...) {
			checkCan(t, "none", r, s, false)
		}
	}
}

func TestRoundsOfWrongRooms(t *testing.T) {
	for _, r := range wrongRooms() {
		checkRefusedRoom(t, "room not valid", r)
	}
}

func TestRoundsOfRoomsAtTheirLimits(t *testing.T) {
	for _, r := range goodRooms() {
		checkHistory(t, "room at its limits", r, historyByBig(r))
	}
}

// roundRoom returns a room whose rounds often go on for a while.
func roundRoom(source *rand.Rand) impl.Room {
	r := impl.Room{Map: []int{0, 0, 0, 0}, Div: []int{1, 1, 1, 2, 3}[source.IntN(5)]}
	for r.Map[0]*r.Map[3] == r.Map[1]*r.Map[2] {
		for i := range r.Map {
			r.Map[i] = source.IntN(5) - 2
		}
	}
	r.Bx, r.By, r.Low = source.IntN(5)-2, source.IntN(5)-2, -source.IntN(8)
	r.High = r.Low + source.IntN(12)
	noises := []impl.Region{boxOf(-1, -1, 1, 1), boxOf(0, -1, 1, 0), boxOf(2, 1, 3, 3), {Halves: diamond(1)}, {Halves: triangleAnd()}, fractions()}
	r.Noise = noises[source.IntN(len(noises))]
	x, y, w, h := source.IntN(20)-5, source.IntN(20)-5, 5+source.IntN(60), 5+source.IntN(60)
	r.Limits = boxOf(x-w, y-h, x+w, y+h)
	if source.IntN(3) == 0 {
		cut := impl.Half{A: 1 + source.IntN(5), B: 3 - source.IntN(7), C: 20 + source.IntN(50)}
		if part := regionOf(append(r.Limits.Halves, cut)...); len(part.Halves) > 0 {
			r.Limits = part
		}
	}
	return r
}

func TestRoundsSweep(t *testing.T) {
	source := rand.New(rand.NewPCG(10, 2))
	atOnce, stops, voids, fails, open, losses := 0, 0, 0, 0, 0, 0
	for range 200 {
		r := roundRoom(source)
		h := historyByBig(r)
		checkHistory(t, "sweep", r, h)
		last := len(h.regions) - 1
		switch {
		case last > maxRounds:
			open++
		case h.fails:
			fails++
		case last == 0:
			atOnce++
		case len(h.regions[last].Halves) == 0:
			voids++
		default:
			stops++
		}
		for rounds := range maxRounds + 1 {
			if loss, _ := h.loss(rounds); loss.N > 0 {
				losses++
			}
		}
	}
	if atOnce < 5 || stops < 40 || voids < 60 || fails < 30 || open < 10 || losses < 800 {
		t.Errorf("%d kept at once, %d stop, %d void, %d fail, %d open, %d losses", atOnce, stops, voids, fails, open, losses)
	}
}

// gameStates returns the whole states of a room with a Div of 1 from which whole inputs keep it in Limits for ever, even if
// each coordinate of the disturbance may be greater or less by more.
func gameStates(r impl.Room, more int) map[[2]int]bool {
	var noise [][2]int
	for _, s := range orderedCorners(r.Noise) {
		for _, by := range [][2]int{{-more, -more}, {-more, more}, {more, -more}, {more, more}} {
			noise = append(noise, [2]int{s.X + by[0], s.Y + by[1]})
		}
	}
	states := map[[2]int]bool{}
	for _, s := range wholeSpotsOf(r.Limits) {
		states[[2]int{s.X, s.Y}] = true
	}
	isHeld := func(s [2]int, u int) bool {
		x, y := r.Map[0]*s[0]+r.Map[1]*s[1]+r.Bx*u, r.Map[2]*s[0]+r.Map[3]*s[1]+r.By*u
		return !slices.ContainsFunc(noise, func(d [2]int) bool { return !states[[2]int{x + d[0], y + d[1]}] })
	}
	for before := -1; before != len(states); {
		before = len(states)
		for s := range states {
			held := false
			for u := r.Low; u <= r.High && !held; u++ {
				held = isHeld(s, u)
			}
			if !held {
				delete(states, s)
			}
		}
	}
	return states
}

// wholeSpotsOf is for regions near the origin.
func wholeSpotsOf(p impl.Region) []impl.Spot {
	var list []impl.Spot
	for x := -30; x <= 30; x++ {
		for y := -30; y <= 30; y++ {
			if !slices.ContainsFunc(p.Halves, func(h impl.Half) bool { return h.A*x+h.B*y > h.C }) {
				list = append(list, impl.Spot{X: x, Y: y, D: 1})
			}
		}
	}
	return list
}

// swingingRoom moves on as in the period before, unless the input changes that.
func swingingRoom(w int) impl.Room {
	return impl.Room{Map: []int{2, -1, 1, 0}, Div: 1, Bx: -2, Low: -3, High: 3, Noise: boxOf(-1, -1, 1, 1), Limits: boxOf(-w, -w, w, w)}
}

// In these rooms, a whole input is admitted at a whole state wherever any input is.
func TestCanBeKeptIsWonByPlaying(t *testing.T) {
	var list []impl.Room
	for v := 1; v <= 5; v++ {
		list = append(list, changed(brakingRoom(v), func(r *impl.Room) { r.Limits = boxOf(-20, -2, 20, v) }))
	}
	for w := 4; w <= 8; w++ {
		list = append(list, swingingRoom(w))
	}
	for _, r := range list {
		states := gameStates(r, 0)
		spots := wholeSpotsOf(r.Limits)
		for _, s := range spots {
			checkCan(t, "game", r, s, states[[2]int{s.X, s.Y}])
		}
		if len(states) < 20 || len(states) == len(spots) {
			t.Errorf("%v: %d of %d states", r, len(states), len(spots))
		}
	}
}

// States with whole inputs that keep the room against greater disturbances are always in the kept region.
func TestKeptRegionHasAllThatIsWon(t *testing.T) {
	source := rand.New(rand.NewPCG(10, 3))
	rooms, tested := 0, 0
	for range 2000 {
		r := roundRoom(source)
		x, y, w, h := source.IntN(7)-3, source.IntN(7)-3, 3+source.IntN(7), 3+source.IntN(7)
		r.Div, r.Limits = 1, boxOf(x-w, y-h, x+w, y+h)
		if slices.Equal(r.Noise.Halves, fractions().Halves) {
			continue
		}
		k, ok := impl.RunRounds(r, maxRounds)
		if !ok || slices.Equal(k.Region.Halves, r.Limits.Halves) {
			continue
		}
		states := gameStates(r, 1)
		if len(states) > 0 {
			rooms++
		}
		for at := range states {
			tested++
			if s := (impl.Spot{X: at[0], Y: at[1], D: 1}); !liesInAll(k.Region.Halves, s) {
				t.Errorf("%v can be kept at %v, which does not lie in %v", r, s, k.Region)
			}
		}
	}
	if rooms < 15 || tested < 1500 {
		t.Errorf("%d rooms with %d states", rooms, tested)
	}
}

// Whatever is kept within a part of Limits is kept, and lies within what each round leaves of all Limits.
func TestKeptRegionHasAllThatIsKept(t *testing.T) {
	source := rand.New(rand.NewPCG(10, 4))
	tested, parts, early := 0, 0, 0
	for range 1500 {
		r := roundRoom(source)
		part := regionOf(append(slices.Clone(r.Limits.Halves), impl.Half{A: source.IntN(7) - 3, B: 1 + source.IntN(3), C: source.IntN(30)})...)
		kept, ok := impl.KeptRegion(changed(r, func(r *impl.Room) { r.Limits = part }))
		if !ok || len(kept.Halves) == 0 || slices.Equal(part.Halves, r.Limits.Halves) {
			continue
		}
		checkKept(t, "kept within a part", r, kept, true)
		for rounds := range maxRounds + 1 {
			k, ok := impl.RunRounds(r, rounds)
			if !ok {
				break
			}
			tested++
			if !withinByBig(kept, k.Region) {
				t.Errorf("%v is kept in %v, which does not lie in %v", r, kept, k)
			}
			if k.Stopped {
				checkKept(t, "greatest", r, k.Region, true)
			} else {
				early++
			}
			if !slices.Equal(kept.Halves, k.Region.Halves) {
				parts++
			}
		}
	}
	if tested < 1000 || parts < 500 || early < 300 {
		t.Errorf("%d tested, %d parts, %d before the end", tested, parts, early)
	}
}

// Every kept box lies within what each round leaves of Limits, whether the rounds stop or not.
func TestKeptRegionHasAllKeptBoxes(t *testing.T) {
	weak := changed(halvingRoom(), func(r *impl.Room) { r.Low, r.High, r.Limits = 0, 0, boxOf(-4, -5, 5, 4) })
	cases := []struct {
		r    impl.Room
		most int
	}{
		{swingingRoom(4), 15}, {growingRoom(2, 1), 500}, {growingRoom(3, 1), 500}, {changed(halvingRoom(), func(r *impl.Room) { r.Limits = boxOf(-3, -4, 4, 3) }), 90}, {weak, 0},
	}
	for _, c := range cases {
		var regions []impl.Region
		for rounds := range maxRounds + 1 {
			if k, ok := impl.RunRounds(c.r, rounds); ok {
				regions = append(regions, k.Region)
			}
		}
		boxes := 0
		for _, box := range boxesWithin(5) {
			if !impl.IsKept(c.r, box) {
				continue
			}
			boxes++
			for rounds, p := range regions {
				if !impl.IsWithin(box, p) {
					t.Errorf("%v is kept in %v, which does not lie in %v, after %d rounds", c.r, box, p, rounds)
				}
			}
		}
		if len(regions) < 9 || boxes < c.most || boxes > 0 && c.most == 0 {
			t.Errorf("%v: %d regions, %d boxes", c.r, len(regions), boxes)
		}
	}
}

// A state stays in the region exactly if an input leads from it into the region again, whatever the disturbance.
func TestEachRoundLeavesWhatIsAdmitted(t *testing.T) {
	source := rand.New(rand.NewPCG(10, 5))
	frame := frameList()
	tested, held := 0, 0
	for range 50 {
		r := roundRoom(source)
		for rounds := range 5 {
			before, ok := impl.RunRounds(r, rounds)
			after, afterOk := impl.RunRounds(r, rounds+1)
			if !ok || !afterOk || before.Stopped {
				break
			}
			p := before.Region
			tested += checkPoints(t, "RunRounds", []any{r, rounds + 1}, after.Region, func(s point) bool {
				image := mapByBig(s, r.Map, r.Div)
				e := admittedByBig(r, p, s).narrowed(r, image, frame)
				return s.liesIn(p.Halves) && image.liesIn(frame) && e.least.Cmp(e.most) <= 0
			})
			if after.Stopped {
				held += checkAllHeld(t, r, after.Region)
			}
		}
	}
	if tested < 10000 || held < 50 {
		t.Errorf("%d spots, %d of them held", tested, held)
	}
}

// checkAllHeld checks that some input holds each corner of a kept region.
func checkAllHeld(t *testing.T, r impl.Room, p impl.Region) int {
	t.Helper()
	held := 0
	for _, s := range orderedCorners(p) {
		e := admittedByBig(r, p, pointOf(s))
		u, ok := ratioOfRat(e.least)
		if !ok || u.D > maxInputDen || s.D > 1000 {
			continue
		}
		held++
		checkHeld(t, "corner", r, s, u, p, true)
	}
	return held
}

// wideRoom brakes at both ends of its position, so that most rounds add two half planes.
func wideRoom(v int) impl.Room {
	return changed(brakingRoom(v), func(r *impl.Room) { r.Limits = boxOf(-200, -v-1, 200, v) })
}

// The first round fails in one of its steps or by the number of half planes, or a later one does so.
func TestRoundsThatFail(t *testing.T) {
	within := func(r impl.Room, p impl.Region) impl.Room { return changed(r, func(r *impl.Room) { r.Limits = p }) }
	for _, c := range append(halfCases(), countCases()...) {
		r := within(c.r, c.p)
		h := historyByBig(r)
		checkHistory(t, c.name, r, h)
		if _, ok := h.after(1); ok && c.step < 3 {
			t.Errorf("%s: the first round does not fail", c.name)
		}
	}
	cases := []struct {
		name   string
		r      impl.Room
		rounds int
	}{
		{"too many to meet in the first round", within(plainRoom(0, 0), impl.Region{Halves: roundHalves(21, 500, 0)}), 0},
		{"too many to meet with two that the inputs add", within(plainRoom(5, 7), ring(20)), 0},
		{"too many to meet, though nothing would change", within(meetRoom(), impl.Region{Halves: roundHalves(37, 500, 0)}), 0},
		{"too many to meet in a later round", wideRoom(20), 9},
		{"too many to meet in the last round but one", wideRoom(12), 10},
		{"too many to meet in the last round", wideRoom(10), 11},
		{"not valid in the second round", growingRoom(10, 5000), 1},
		{"not valid in the last round", growingRoom(2, 24), 11},
		{"not valid after the last round", growingRoom(2, 12), 12},
	}
	for _, c := range cases {
		h := historyByBig(c.r)
		checkHistory(t, c.name, c.r, h)
		if !h.fails || len(h.regions) != c.rounds+1 {
			t.Errorf("%s: %v", c.name, h)
		}
		for rounds := range maxRounds + 1 {
			if _, ok := impl.RunRounds(c.r, rounds); ok != (rounds <= c.rounds) {
				t.Errorf("%s: RunRounds with %d: %v", c.name, rounds, ok)
			}
			if _, ok := impl.LossOf(c.r, rounds); ok != (rounds < c.rounds) {
				t.Errorf("%s: LossOf with %d: %v", c.name, rounds, ok)
			}
		}
		checkStop(t, c.name, c.r, impl.Region{}, -1)
	}
	for v := 1; v <= 9; v++ {
		checkHistory(t, "just few enough to meet", wideRoom(v), historyByBig(wideRoom(v)))
		if got := impl.RoundsOf(wideRoom(v)); got != v+1 {
			t.Errorf("RoundsOf(%v) = %d", wideRoom(v), got)
		}
	}
}

// Only the given room counts: neither earlier calls, nor nil or empty lists.
func TestRoundsKeepNoState(t *testing.T) {
	for range 2 {
		checkHistory(t, "again", brakingRoom(4), brakingHistory(4))
		checkHistory(t, "in between", growingRoom(5, 1), growingHistory(5, 1))
		checkRefusedRoom(t, "nil lists", impl.Room{})
		checkRefusedRoom(t, "empty lists", impl.Room{Map: []int{}, Div: 1, Noise: impl.Region{Halves: []impl.Half{}}, Limits: impl.Region{Halves: []impl.Half{}}})
		checkHistory(t, "in between", shrinkingRoom(6), shrinkingHistory(6))
	}
	for _, empty := range [][]impl.Half{nil, {}} {
		checkRefusedRoom(t, "no Noise", changed(halvingRoom(), func(r *impl.Room) { r.Noise.Halves = empty }))
		checkRefusedRoom(t, "no Limits", changed(halvingRoom(), func(r *impl.Room) { r.Limits.Halves = empty }))
	}
	for _, empty := range [][]int{nil, {}} {
		checkRefusedRoom(t, "no Map", changed(halvingRoom(), func(r *impl.Room) { r.Map = empty }))
	}
}

// keptRegions are all functions that take a room to a region.
func keptRegions() map[string]func(r impl.Room) (impl.Region, bool) {
	list := map[string]func(r impl.Room) (impl.Region, bool){"kept": impl.KeptRegion}
	for rounds, name := range map[int]string{0: "no round", 1: "one round", 2: "two rounds", maxRounds: "all rounds", -1: "rounds below 0", maxRounds + 1: "too many rounds"} {
		list[name] = func(r impl.Room) (impl.Region, bool) {
			k, ok := impl.RunRounds(r, rounds)
			return k.Region, ok
		}
	}
	return list
}

// keepRooms are of every kind, and few.
func keepRooms() []impl.Room {
	return append(argRooms(), halvingRoom(), leaningRoom(), brakingRoom(3), brakingRoom(12), shrinkingRoom(2), shrinkingRoom(1), growingRoom(10, 1), growingRoom(2, 1),
		changed(plainRoom(0, 0), func(r *impl.Room) { r.Limits = lattice(40, 300, 5) }), changed(meetRoom(), func(r *impl.Room) { r.Limits = lattice(36, 300, 5) }))
}

func TestRoundsLeaveTheirArguments(t *testing.T) {
	for _, r := range keepRooms() {
		room, clipped := roomWithSpare(r), roomClipped(r)
		for name, call := range keptRegions() {
			got, ok := call(room)
			// The spare capacity behind an argument does not count, whatever it holds.
			want, wantOk := call(clipped)
			checkRegion(t, name, r, got, ok, want, wantOk)
		}
		for _, rounds := range []int{-1, 0, 1, 5, maxRounds, maxRounds + 1} {
			want, wantOk := impl.LossOf(clipped, rounds)
			checkLoss(t, "spare", room, rounds, want, wantOk)
		}
		s := impl.Spot{X: 1, Y: 2, D: 3}
		checkCan(t, "spare", room, s, impl.CanBeKept(clipped, s))
		if impl.RoundsOf(room) != impl.RoundsOf(clipped) {
			t.Errorf("RoundsOf(%v) is not the same with spare capacity", r)
		}
		if !isRoomUntouched(room, r) {
			t.Errorf("%v is changed to %v", r, room)
		}
	}
}

func TestRoundsAreNewEachTime(t *testing.T) {
	for name, call := range keptRegions() {
		for _, r := range keepRooms() {
			room := roomWithSpare(r)
			first, _ := call(room)
			second, ok := call(room)
			want := slices.Clone(second.Halves)
			scribble(first.Halves)
			if !isRoomUntouched(room, r) || !slices.Equal(second.Halves, want) {
				t.Errorf("%s: a result for %v shares memory", name, r)
			}
			third, thirdOk := call(room)
			checkRegion(t, name+", again", r, third, thirdOk, impl.Region{Halves: want}, ok)
			scribbleEach(room, func() {
				if !slices.Equal(second.Halves, want) {
					t.Errorf("%s: a result for %v shares memory with its argument", name, r)
				}
			})
		}
	}
}

// The same list as Noise and as Limits, and as a part of a longer list.
func TestRoundsOfSharedLists(t *testing.T) {
	for _, halves := range [][]impl.Half{boxAnd(-5, -5, 5, 5), diamond(7), frameList()} {
		shared := withSpare(halves)
		r := changed(halvingRoom(), func(r *impl.Room) { r.Div = 3 })
		r.Noise.Halves, r.Limits.Halves = shared, shared
		checkHistory(t, "shared", r, historyByBig(roomClipped(r)))
		for name, call := range keptRegions() {
			got, ok := call(r)
			want, wantOk := call(roomClipped(r))
			checkRegion(t, name, halves, got, ok, want, wantOk)
			scribble(got.Halves)
			if !isUntouched(shared, halves) {
				t.Fatalf("%s: %v is changed to %v", name, halves, shared)
			}
		}
	}
}
