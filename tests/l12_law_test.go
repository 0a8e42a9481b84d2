package tests

import (
	"math"
	"math/big"
	"math/rand/v2"
	"slices"
	"testing"

	"loop.example/g00832/impl"
)

const (
	maxPieces = 40
	maxPart   = 1000000000000
	maxLawDen = 1000
	maxSlope  = 1000000
)

func pieceOf(a int, b int, c int, d int) impl.Piece {
	return impl.Piece{A: a, B: b, C: c, D: d}
}

func constant(c int) impl.Piece {
	return impl.Piece{C: c, D: 1}
}

func piecesOf(list ...impl.Piece) []impl.Piece {
	return list
}

func validPieceByBig(q impl.Piece) bool {
	shared := new(big.Int).GCD(nil, nil, bigGcd(q.A, q.B), bigGcd(q.C, q.D))
	return within(q.D, 1, maxPart) && within(q.A, -maxPart, maxPart) && within(q.B, -maxPart, maxPart) && within(q.C, -maxPart, maxPart) &&
		shared.Cmp(big.NewInt(1)) == 0
}

func validLawByBig(l impl.Law) bool {
	for _, list := range [][]impl.Piece{l.Lows, l.Highs} {
		if !within(len(list), 1, maxPieces) {
			return false
		}
		for _, q := range list {
			if !validPieceByBig(q) {
				return false
			}
		}
	}
	return true
}

// pieceOfRats returns the function a*x + b*y + c in lowest terms, which has to be within the limits.
func pieceOfRats(a *big.Rat, b *big.Rat, c *big.Rat) impl.Piece {
	d := big.NewInt(1)
	for _, n := range []*big.Rat{a, b, c} {
		shared := new(big.Int).GCD(nil, nil, d, n.Denom())
		d = new(big.Int).Mul(d, new(big.Int).Quo(n.Denom(), shared))
	}
	times := func(n *big.Rat) int {
		return int(new(big.Rat).Mul(n, new(big.Rat).SetInt(d)).Num().Int64())
	}
	return impl.Piece{A: times(a), B: times(b), C: times(c), D: int(d.Int64())}
}

// lawByBig takes any arguments and does what the chapter says, half plane by half plane.
func lawByBig(r impl.Room, p impl.Region) (impl.Law, bool) {
	robust, ok := robustByBig(r, p)
	if !ok || len(robust.Halves) == 0 {
		return impl.Law{}, false
	}
	l := impl.Law{Lows: piecesOf(constant(r.Low)), Highs: piecesOf(constant(r.High))}
	for _, h := range robust.Halves {
		n := bigSum(h.A, r.Bx, h.B, r.By)
		a, b := bigSum(h.A, r.Map[0], h.B, r.Map[2]), bigSum(h.A, r.Map[1], h.B, r.Map[3])
		if n.Sign() == 0 {
			state, ok := halfByRat(int(a.Int64()), int(b.Int64()), whole(h.C*r.Div))
			if !ok || slices.ContainsFunc(orderedCorners(p), func(s impl.Spot) bool { return sideByBig(state, s) > 0 }) {
				return impl.Law{}, false
			}
			continue
		}
		over := new(big.Rat).SetFrac(big.NewInt(-1), new(big.Int).Mul(n, big.NewInt(int64(r.Div))))
		top := new(big.Rat).SetFrac(big.NewInt(int64(h.C)), n)
		q := pieceOfRats(new(big.Rat).Mul(over, new(big.Rat).SetInt(a)), new(big.Rat).Mul(over, new(big.Rat).SetInt(b)), top)
		if n.Sign() > 0 {
			l.Highs = append(l.Highs, q)
		} else {
			l.Lows = append(l.Lows, q)
		}
	}
	return l, true
}

func valueByBig(q impl.Piece, s impl.Spot) *big.Rat {
	value := new(big.Rat).Add(pointOf(s).along(q.A, q.B), whole(q.C))
	return value.Quo(value, whole(q.D))
}

func pieceAtByBig(q impl.Piece, s impl.Spot) (impl.Ratio, bool) {
	if !validPieceByBig(q) || !validSpotByBig(s) || s.D > maxLawDen {
		return impl.Ratio{}, false
	}
	return ratioOfRat(valueByBig(q, s))
}

// activeByBig returns the index of the first of the functions with the greatest value if sign is 1, and with the least one if
// it is -1, and this value.
func activeByBig(l impl.Law, list []impl.Piece, s impl.Spot, sign int) (int, *big.Rat) {
	if !validLawByBig(l) {
		return -1, nil
	}
	for _, q := range list {
		if _, ok := pieceAtByBig(q, s); !ok {
			return -1, nil
		}
	}
	for i, q := range list {
		value := valueByBig(q, s)
		if !slices.ContainsFunc(list, func(o impl.Piece) bool { return valueByBig(o, s).Cmp(value) == sign }) {
			return i, value
		}
	}
	return -1, nil
}

func lawAtByBig(l impl.Law, s impl.Spot) (impl.Span, bool) {
	low, least := activeByBig(l, l.Lows, s, 1)
	high, most := activeByBig(l, l.Highs, s, -1)
	if low < 0 || high < 0 {
		return impl.Span{}, false
	}
	return spanOfEnds(ends{least, most})
}

// halfOfRats returns the half plane of the points with a*x + b*y <= c.
func halfOfRats(a *big.Rat, b *big.Rat, c *big.Rat) (impl.Half, bool) {
	shared := big.NewInt(1)
	for _, n := range []*big.Rat{a, b, c} {
		shared.Mul(shared, n.Denom())
	}
	var parts []*big.Int
	divisor := new(big.Int)
	for _, n := range []*big.Rat{a, b, c} {
		part := new(big.Rat).Mul(n, new(big.Rat).SetInt(shared)).Num()
		parts = append(parts, part)
		divisor.GCD(nil, nil, divisor, new(big.Int).Abs(part))
	}
	var list [3]int
	for i, most := range []int64{maxCoef, maxCoef, maxTop} {
		n := new(big.Int).Quo(parts[i], divisor)
		if n.CmpAbs(big.NewInt(most)) > 0 {
			return impl.Half{}, false
		}
		list[i] = int(n.Int64())
	}
	return impl.Half{A: list[0], B: list[1], C: list[2]}, true
}

// lessBy returns the slopes and the constant of o minus q.
func lessBy(q impl.Piece, o impl.Piece) [3]*big.Rat {
	var list [3]*big.Rat
	for i, n := range [][2]int{{q.A, o.A}, {q.B, o.B}, {q.C, o.C}} {
		list[i] = new(big.Rat).Sub(new(big.Rat).Quo(whole(n[1]), whole(o.D)), new(big.Rat).Quo(whole(n[0]), whole(q.D)))
	}
	return list
}

// lowRegionsByBig takes any arguments and does what the chapter says, pair by pair.
func lowRegionsByBig(r impl.Room, p impl.Region, l impl.Law) ([]impl.Region, bool) {
	if !validRoomByBig(r) || !validRegionByBig(p) || !validLawByBig(l) || len(p.Halves)+len(l.Lows) > maxHalves {
		return nil, false
	}
	var list []impl.Region
	for i, q := range l.Lows {
		if q.D > maxSlope && len(l.Lows) > 1 {
			return nil, false
		}
		halves, isNever := slices.Clone(p.Halves), len(p.Halves) == 0
		for k, o := range l.Lows {
			by := lessBy(q, o)
			if by[0].Sign() == 0 && by[1].Sign() == 0 {
				isNever = isNever || by[2].Sign() > 0 || by[2].Sign() == 0 && k < i
				continue
			}
			h, ok := halfOfRats(by[0], by[1], new(big.Rat).Neg(by[2]))
			if !ok {
				return nil, false
			}
			halves = append(halves, h)
		}
		region := impl.Region{}
		if !isNever {
			region, _ = regionByBig(halves)
		}
		list = append(list, region)
	}
	return list, true
}

// doubleArea returns twice the area of a region.
func doubleArea(p impl.Region) *big.Rat {
	sum, corners := new(big.Rat), orderedCorners(p)
	for i, s := range corners {
		a, b := pointOf(s), pointOf(corners[(i+1)%len(corners)])
		sum.Add(sum, new(big.Rat).Mul(a.x, b.y))
		sum.Sub(sum, new(big.Rat).Mul(a.y, b.x))
	}
	return sum
}

func sameLaw(a impl.Law, b impl.Law) bool {
	return slices.Equal(a.Lows, b.Lows) && slices.Equal(a.Highs, b.Highs)
}

func checkPieceOk(t *testing.T, name string, q impl.Piece, want bool) {
	t.Helper()
	if got := impl.PieceOk(q); got != want {
		t.Errorf("%s: PieceOk(%v) = %v", name, q, got)
	}
}

func checkLawOk(t *testing.T, name string, l impl.Law, want bool) {
	t.Helper()
	if got := impl.LawOk(l); got != want {
		t.Errorf("%s: LawOk of %d Lows and %d Highs = %v", name, len(l.Lows), len(l.Highs), got)
	}
}

func checkLaw(t *testing.T, name string, r impl.Room, p impl.Region, want impl.Law, wantOk bool) {
	t.Helper()
	got, ok := impl.LawOf(r, p)
	if !sameLaw(got, want) || ok != wantOk {
		t.Errorf("%s: LawOf(%v, %v) = %v, %v, want %v, %v", name, r, p, got, ok, want, wantOk)
	}
}

func checkPieceAt(t *testing.T, name string, q impl.Piece, s impl.Spot, want impl.Ratio, wantOk bool) {
	t.Helper()
	got, ok := impl.PieceAt(q, s)
	checkRatio(t, "PieceAt: "+name, []any{q, s}, got, ok, want, wantOk)
}

func checkLawAt(t *testing.T, name string, l impl.Law, s impl.Spot, want impl.Span, wantOk bool) {
	t.Helper()
	got, ok := impl.LawAt(l, s)
	checkSpan(t, "LawAt: "+name, []any{l, s}, got, ok, want, wantOk)
}

func checkActive(t *testing.T, name string, l impl.Law, s impl.Spot, low int, high int) {
	t.Helper()
	if got := impl.ActiveLow(l, s); got != low {
		t.Errorf("%s: ActiveLow(%v, %v) = %d, want %d", name, l, s, got, low)
	}
	if got := impl.ActiveHigh(l, s); got != high {
		t.Errorf("%s: ActiveHigh(%v, %v) = %d, want %d", name, l, s, got, high)
	}
}

func checkLowRegions(t *testing.T, name string, r impl.Room, p impl.Region, l impl.Law, want []impl.Region, wantOk bool) {
	t.Helper()
	got, ok := impl.LowRegions(r, p, l)
	same := func(a impl.Region, b impl.Region) bool { return slices.Equal(a.Halves, b.Halves) }
	if !slices.EqualFunc(got, want, same) || ok != wantOk {
		t.Errorf("%s: LowRegions(%v, %v, %v) = %v, %v, want %v, %v", name, r, p, l, got, ok, want, wantOk)
	}
}

// checkNoLaw is for laws that are not valid.
func checkNoLaw(t *testing.T, name string, l impl.Law) {
	t.Helper()
	checkLawOk(t, name, l, false)
	for _, s := range []impl.Spot{{D: 1}, {X: 1, Y: 2, D: 3}} {
		checkLawAt(t, name, l, s, impl.Span{}, false)
		checkActive(t, name, l, s, -1, -1)
	}
	for _, p := range []impl.Region{boxOf(-5, -5, 5, 5), {}} {
		checkLowRegions(t, name, plainRoom(1, 0), p, l, nil, false)
	}
}

// checkCover checks regions of Lows without calculating them: in each region its function is nowhere less than another one,
// and together they are as large as p, so that none of them could be larger.
func checkCover(t *testing.T, name string, p impl.Region, list []impl.Piece, regions []impl.Region) {
	t.Helper()
	sum := new(big.Rat)
	for i, region := range regions {
		if !impl.RegionOk(region) {
			t.Errorf("%s: %v is not valid", name, region)
			return
		}
		for _, s := range orderedCorners(region) {
			value := valueByBig(list[i], s)
			if !liesInAll(p.Halves, s) || slices.ContainsFunc(list, func(o impl.Piece) bool { return valueByBig(o, s).Cmp(value) > 0 }) {
				t.Errorf("%s: region %d of %v reaches %v", name, i, list, s)
			}
		}
		sum.Add(sum, doubleArea(region))
		if first := slices.Index(list, list[i]); first != i && len(region.Halves) > 0 {
			t.Errorf("%s: %v has more than one region", name, list[i])
		}
	}
	if len(regions) != len(list) || sum.Cmp(doubleArea(p)) != 0 {
		t.Errorf("%s: the %d regions of %v do not cover %v", name, len(regions), list, p)
	}
}

func TestMaxPieces(t *testing.T) {
	if impl.MaxPieces != maxPieces {
		t.Errorf("MaxPieces = %d", impl.MaxPieces)
	}
}

func TestPieceOk(t *testing.T) {
	// The greatest prime that is no greater than the limit.
	const prime = 999999999989
	cases := []struct {
		name string
		q    impl.Piece
		want bool
	}{
		{"all four numbers", pieceOf(1, -2, 3, 4), true},
		{"a constant", constant(5), true},
		{"a negative constant", constant(-5), true},
		{"0", constant(0), true},
		{"0 with a D of 2", pieceOf(0, 0, 0, 2), false},
		{"0 with the greatest D", pieceOf(0, 0, 0, maxPart), false},
		{"only A", pieceOf(7, 0, 0, 1), true},
		{"only B", pieceOf(0, -7, 0, 1), true},
		{"nothing", impl.Piece{}, false},
		{"D of 0", pieceOf(1, 2, 3, 0), false},
		{"D of 1", pieceOf(1, 2, 3, 1), true},
		{"D of -1", pieceOf(1, 2, 3, -1), false},
		{"D below 0", pieceOf(1, 2, 3, -4), false},
		{"D at its limit", pieceOf(1, 2, 3, maxPart), true},
		{"D just within its limit", pieceOf(1, 2, 3, maxPart-1), true},
		{"D beyond its limit", pieceOf(1, 2, 3, maxPart+1), false},
		{"D at -1 times its limit", pieceOf(1, 2, 3, -maxPart), false},
		{"A at its limit", pieceOf(maxPart, 2, 3, 1), true},
		{"A beyond its limit", pieceOf(maxPart+1, 2, 3, 1), false},
		{"A at its lower limit", pieceOf(-maxPart, 2, 3, 1), true},
		{"A beyond its lower limit", pieceOf(-maxPart-1, 2, 3, 1), false},
		{"B at its limit", pieceOf(1, maxPart, 3, 1), true},
		{"B beyond its limit", pieceOf(1, maxPart+1, 3, 1), false},
		{"B at its lower limit", pieceOf(1, -maxPart, 3, 1), true},
		{"B beyond its lower limit", pieceOf(1, -maxPart-1, 3, 1), false},
		{"C at its limit", pieceOf(1, 2, maxPart, 1), true},
		{"C beyond its limit", pieceOf(1, 2, maxPart+1, 1), false},
		{"C at its lower limit", pieceOf(1, 2, -maxPart, 1), true},
		{"C beyond its lower limit", pieceOf(1, 2, -maxPart-1, 1), false},
		{"all at their limits but D", pieceOf(-maxPart, maxPart, -maxPart, 1), true},
		{"all at their limits but C", pieceOf(maxPart, maxPart, 1, maxPart), true},
		{"all at their limits", pieceOf(maxPart, maxPart, maxPart, maxPart), false},
		{"2 divides all", pieceOf(2, 4, 6, 8), false},
		{"2 divides all below 0", pieceOf(-2, -4, -6, 8), false},
		{"2 divides all but A", pieceOf(3, 4, 6, 8), true},
		{"2 divides all but B", pieceOf(2, 5, 6, 8), true},
		{"2 divides all but C", pieceOf(2, 4, 7, 8), true},
		{"2 divides all but D", pieceOf(2, 4, 6, 9), true},
		{"each two have a divisor", pieceOf(30, 42, 70, 105), true},
		{"3 divides all with two zeros", pieceOf(0, 3, 0, 9), false},
		{"2 divides all with A of 0", pieceOf(0, 4, 6, 8), false},
		{"2 divides all with B of 0", pieceOf(4, 0, 6, 8), false},
		{"2 divides all with C of 0", pieceOf(4, 6, 0, 8), false},
		{"a constant not in lowest terms", pieceOf(0, 0, 6, 4), false},
		{"a constant in lowest terms", pieceOf(0, 0, 3, 2), true},
		{"only A and D", pieceOf(4, 0, 0, 6), false},
		{"a great prime divides all", pieceOf(prime, prime, -prime, prime), false},
		{"a great prime divides all with zeros", pieceOf(0, 0, prime, prime), false},
		{"a great prime divides all but one", pieceOf(prime, prime, prime-1, prime), true},
	}
	for _, c := range cases {
		checkPieceOk(t, c.name, c.q, c.want)
		if validPieceByBig(c.q) != c.want {
			t.Errorf("validPieceByBig: %s is not %v", c.name, c.want)
		}
	}
}

func TestPieceOkSweep(t *testing.T) {
	good, bad := 0, 0
	for a := -6; a <= 6; a++ {
		for b := -6; b <= 6; b++ {
			for c := -6; c <= 6; c++ {
				for d := -1; d <= 6; d++ {
					want := validPieceByBig(pieceOf(a, b, c, d))
					checkPieceOk(t, "sweep", pieceOf(a, b, c, d), want)
					if want {
						good++
					} else {
						bad++
					}
				}
			}
		}
	}
	if good < 5000 || bad < 5000 {
		t.Errorf("%d good, %d bad", good, bad)
	}
	list := append(stepInts(maxPart), edgeInts()...)
	for _, n := range list {
		for _, m := range []int{-2, -1, 0, 1, 2, 6, maxPart, math.MinInt} {
			for _, q := range []impl.Piece{{A: n, B: m, C: 2, D: 1}, {A: n, B: m, C: 2, D: 2}, {A: m, B: n, C: 3, D: 3}, {A: m, B: 6, C: n, D: 6}, {A: 2, B: 4, C: m, D: n}, {A: n, B: n, C: n, D: n}, {C: m, D: n}} {
				checkPieceOk(t, "sweep", q, validPieceByBig(q))
			}
		}
	}
}

// wrongPieces are not valid.
func wrongPieces() []impl.Piece {
	list := piecesOf(impl.Piece{}, pieceOf(1, 2, 3, 0), pieceOf(1, 2, 3, -1), pieceOf(1, 2, 3, maxPart+1), pieceOf(2, 4, 6, 8), pieceOf(0, 0, 0, 2), pieceOf(0, 0, maxPart+1, 1))
	for _, n := range []int{math.MinInt, math.MinInt + 1, -maxPart - 1, maxPart + 1, math.MaxInt - 1, math.MaxInt} {
		list = append(list, pieceOf(n, 0, 0, 1), pieceOf(0, n, 0, 1), pieceOf(0, 0, n, 1), pieceOf(1, 1, 1, n), pieceOf(n, n, n, n))
	}
	return list
}

// manyPieces are n different functions.
func manyPieces(n int) []impl.Piece {
	var list []impl.Piece
	for i := range n {
		list = append(list, pieceOf(i, 1, -i, 1))
	}
	return list
}

func TestLawOk(t *testing.T) {
	one, two := piecesOf(constant(0)), piecesOf(constant(1), pieceOf(1, 2, 3, 4))
	cases := []struct {
		name  string
		lows  []impl.Piece
		highs []impl.Piece
		want  bool
	}{
		{"one of each", one, one, true},
		{"some", two, one, true},
		{"some", one, two, true},
		{"none", nil, nil, false},
		{"no Lows", nil, one, false},
		{"no Highs", one, nil, false},
		{"empty Lows", []impl.Piece{}, two, false},
		{"empty Highs", two, []impl.Piece{}, false},
		{"MaxPieces Lows", manyPieces(maxPieces), one, true},
		{"MaxPieces Highs", one, manyPieces(maxPieces), true},
		{"MaxPieces of each", manyPieces(maxPieces), manyPieces(maxPieces), true},
		{"one Low too many", manyPieces(maxPieces + 1), one, false},
		{"one High too many", one, manyPieces(maxPieces + 1), false},
		{"one of each too many", manyPieces(maxPieces + 1), manyPieces(maxPieces + 1), false},
		{"far too many Lows", manyPieces(100000), one, false},
		{"far too many Highs", one, manyPieces(100000), false},
		{"equal functions", slices.Repeat(one, 5), slices.Repeat(two, 5), true},
		{"Lows greater than Highs", piecesOf(constant(9)), piecesOf(constant(-9)), true},
	}
	for _, c := range cases {
		l := impl.Law{Lows: c.lows, Highs: c.highs}
		checkLawOk(t, c.name, l, c.want)
		if validLawByBig(l) != c.want {
			t.Errorf("validLawByBig: %s is not %v", c.name, c.want)
		}
		if !c.want {
			checkNoLaw(t, c.name, l)
		}
	}
}

func TestLawOkWrongPieces(t *testing.T) {
	for _, bad := range wrongPieces() {
		for _, n := range []int{1, 2, 3, 7, maxPieces} {
			for _, at := range []int{0, n / 2, n - 1} {
				good, list := manyPieces(n), manyPieces(n)
				list[at] = bad
				checkLawOk(t, "good", impl.Law{Lows: good, Highs: good}, true)
				checkNoLaw(t, "a Low that is not valid", impl.Law{Lows: list, Highs: good})
				checkNoLaw(t, "a High that is not valid", impl.Law{Lows: good, Highs: list})
				checkNoLaw(t, "both not valid", impl.Law{Lows: list, Highs: list})
			}
		}
	}
}

type lawCase struct {
	name  string
	r     impl.Room
	p     impl.Region
	lows  []impl.Piece
	highs []impl.Piece
}

// lawCases have a law; p of most of them is the box from -5, -9 to 5, 9, whose robust part is the box from -4, -8 to 4, 8.
func lawCases() []lawCase {
	halving, along, some := halvingRoom(), plainRoom(1, 0), someRoom()
	p := halving.Limits
	driven := func(bx int, by int) impl.Room {
		return changed(halving, func(r *impl.Room) { r.Bx, r.By = bx, by })
	}
	ranged := func(low int, high int) impl.Room {
		return changed(halving, func(r *impl.Room) { r.Low, r.High = low, high })
	}
	mapped := func(bx int, by int, div int, m ...int) impl.Room {
		return changed(halving, func(r *impl.Room) { r.Bx, r.By, r.Map, r.Div = bx, by, m, div })
	}
	low, high := constant(-2), constant(2)
	x1, x2, y1, y2 := pieceOf(-1, 0, -4, 1), pieceOf(-1, 0, 4, 1), pieceOf(0, -1, -16, 2), pieceOf(0, -1, 16, 2)
	six := impl.Region{Halves: []impl.Half{{A: 1, C: 5}, {A: 1, B: 1, C: 7}, {B: 1, C: 5}, {A: -1, C: 5}, {A: -1, B: -1, C: 7}, {B: -1, C: 5}}}
	thirds := impl.Region{Halves: []impl.Half{{A: 3, C: 20}, {B: 1, C: 9}, {A: -3, C: 20}, {B: -1, C: 9}}}
	offset := changed(along, func(r *impl.Room) { r.Noise = boxOf(1, 2, 3, 4) })
	return []lawCase{
		{"along x", halving, p, piecesOf(low, x1), piecesOf(high, x2)},
		{"back along x", driven(-1, 0), p, piecesOf(low, pieceOf(1, 0, -4, 1)), piecesOf(high, pieceOf(1, 0, 4, 1))},
		{"both, n of 1", driven(1, 1), p, piecesOf(low, x1, y1), piecesOf(high, x2, y2)},
		{"both, n of -1 first", driven(-1, 1), p, piecesOf(low, pieceOf(1, 0, -4, 1), y1), piecesOf(high, y2, pieceOf(1, 0, 4, 1))},
		{"both, n of -1 second", driven(1, -1), p, piecesOf(low, pieceOf(0, 1, -16, 2), x1), piecesOf(high, x2, pieceOf(0, 1, 16, 2))},
		{"both back", driven(-1, -1), p, piecesOf(low, pieceOf(1, 0, -4, 1), pieceOf(0, 1, -16, 2)), piecesOf(high, pieceOf(1, 0, 4, 1), pieceOf(0, 1, 16, 2))},
		{"n of 2", driven(2, 0), p, piecesOf(low, pieceOf(-1, 0, -4, 2)), piecesOf(high, pieceOf(-1, 0, 4, 2))},
		{"n of 4 and 16", driven(4, 16), p, piecesOf(low, pieceOf(-1, 0, -4, 4), pieceOf(0, -1, -16, 32)), piecesOf(high, pieceOf(-1, 0, 4, 4), pieceOf(0, -1, 16, 32))},
		{"the greatest n", driven(100, 0), p, piecesOf(low, pieceOf(-1, 0, -4, 100)), piecesOf(high, pieceOf(-1, 0, 4, 100))},
		{"one input", ranged(1, 1), p, piecesOf(constant(1), x1), piecesOf(constant(1), x2)},
		{"the input 0", ranged(0, 0), p, piecesOf(constant(0), x1), piecesOf(constant(0), x2)},
		{"all inputs", ranged(-1000, 1000), p, piecesOf(constant(-1000), x1), piecesOf(constant(1000), x2)},
		{"inputs above all that are admitted", ranged(900, 1000), p, piecesOf(constant(900), x1), piecesOf(constant(1000), x2)},
		{"no drive", mapped(0, 0, 9, 2, 0, 0, 3), p, piecesOf(low), piecesOf(high)},
		{"no drive, touching", mapped(0, 0, 10, 8, 0, 0, 8), p, piecesOf(low), piecesOf(high)},
		{"touching at single corners", mapped(1, 0, 20, 20, 0, 5, 15), p, piecesOf(low, x1), piecesOf(high, x2)},
		{"six edges", plainRoom(1, 1), six, piecesOf(constant(-1), x1, pieceOf(-1, -1, -5, 2), pieceOf(0, -1, -4, 1)), piecesOf(constant(1), x2, pieceOf(-1, -1, 5, 2), pieceOf(0, -1, 4, 1))},
		{"six edges, one way", changed(plainRoom(1, 0), func(r *impl.Room) { r.Map, r.Div = []int{1, 0, 0, 1}, 2 }), six,
			piecesOf(constant(-1), pieceOf(-1, 0, -8, 2), pieceOf(-1, -1, -10, 2)), piecesOf(constant(1), pieceOf(-1, 0, 8, 2), pieceOf(-1, -1, 10, 2))},
		{"an edge along the drive", changed(plainRoom(1, -1), func(r *impl.Room) { r.Div = 2 }), six,
			piecesOf(constant(-1), pieceOf(0, 1, -8, 2), pieceOf(-1, 0, -8, 2)), piecesOf(constant(1), pieceOf(-1, 0, 8, 2), pieceOf(0, 1, 8, 2))},
		{"n of 3 reduced", mapped(1, 0, 2, 2, 0, 0, 1), thirds, piecesOf(low, pieceOf(-3, 0, -17, 3)), piecesOf(high, pieceOf(-3, 0, 17, 3))},
		{"C that is reduced", mapped(3, 0, 2, 6, 0, 0, 1), p, piecesOf(low, pieceOf(-3, 0, -4, 3)), piecesOf(high, pieceOf(-3, 0, 4, 3))},
		{"reduced to a D of 1", mapped(2, 0, 2, 4, 0, 0, 1), p, piecesOf(low, pieceOf(-1, 0, -2, 1)), piecesOf(high, pieceOf(-1, 0, 2, 1))},
		{"a common divisor of all four numbers", mapped(2, 0, 6, 4, 8, 0, 1), p, piecesOf(low, pieceOf(-1, -2, -6, 3)), piecesOf(high, pieceOf(-1, -2, 6, 3))},
		{"exchanged", mapped(1, 0, 2, 0, 4, 1, 0), p, piecesOf(low, pieceOf(0, -2, -4, 1)), piecesOf(high, pieceOf(0, -2, 4, 1))},
		{"all numbers of the map", mapped(1, 1, 7, 1, 2, 3, -1), p, piecesOf(low, pieceOf(-1, -2, -28, 7), pieceOf(-3, 1, -56, 7)), piecesOf(high, pieceOf(-1, -2, 28, 7), pieceOf(-3, 1, 56, 7))},
		{"a C of 0", changed(along, func(r *impl.Room) { r.Div = 3 }), boxOf(-1, -9, 5, 9), piecesOf(constant(-1), pieceOf(-1, 0, 0, 3)), piecesOf(constant(1), pieceOf(-1, 0, 12, 3))},
		{"Noise without the origin", changed(offset, func(r *impl.Room) { r.Div = 3 }), boxOf(-9, -9, 9, 9), piecesOf(constant(-1), pieceOf(-1, 0, -30, 3)), piecesOf(constant(1), pieceOf(-1, 0, 18, 3))},
		{"the frame", changed(along, func(r *impl.Room) { r.Div = 2 }), impl.Region{Halves: frameList()}, piecesOf(constant(-1), pieceOf(-1, 0, -1998, 2)), piecesOf(constant(1), pieceOf(-1, 0, 1998, 2))},
		{"some room", some, boxOf(-30, -40, 50, 60), piecesOf(constant(-8), pieceOf(1, 2, -145, 15), pieceOf(-3, 1, -145, 35)), piecesOf(constant(9), pieceOf(-3, 1, 245, 35), pieceOf(1, 2, 95, 15))},
	}
}

type noLawCase struct {
	name string
	r    impl.Room
	p    impl.Region
}

// noLawCases have no law, each for one reason.
func noLawCases() []noLawCase {
	halving, along := halvingRoom(), plainRoom(1, 0)
	box := halving.Limits
	mapped := func(bx int, by int, div int, m ...int) impl.Room {
		return changed(halving, func(r *impl.Room) { r.Bx, r.By, r.Map, r.Div = bx, by, m, div })
	}
	large := changed(along, func(r *impl.Room) { r.Noise = boxOf(-6, -1, 6, 1) })
	above := changed(along, func(r *impl.Room) { r.Noise = boxOf(-1, 2, 1, 4) })
	below := changed(along, func(r *impl.Room) { r.Noise = boxOf(-1, -4, 1, -2) })
	far := func(a int, b int, c int) impl.Region { return regionOf(impl.Half{A: a, B: b, C: c}) }
	list := []noLawCase{
		{"a void region", halving, impl.Region{}},
		{"an empty region", halving, impl.Region{Halves: []impl.Half{}}},
		{"a region without one of its edges", halving, impl.Region{Halves: boxAnd(-9, -9, 9, 9)[1:]}},
		{"a region with an edge that is not needed", halving, impl.Region{Halves: boxAnd(-9, -9, 9, 9, impl.Half{A: 1, B: -1, C: 20})}},
		{"a region that is a line", halving, boxOf(-9, 0, 9, 0)},
		{"nothing left by Noise", large, boxOf(-5, -5, 5, 5)},
		{"a line left by Noise", large, boxOf(-6, -5, 6, 5)},
		{"a point left by Noise", along, boxOf(-1, -1, 1, 1)},
		{"no room", impl.Room{}, box},
		{"no determinant", changed(halving, func(r *impl.Room) { r.Map = []int{1, 1, 1, 1} }), box},
		{"Low greater than High", changed(halving, func(r *impl.Room) { r.Low = 3 }), box},
		{"n of 0 at both ends", mapped(1, 0, 1, 1, 0, 0, 1), box},
		{"n of 0 at both ends across", mapped(0, 1, 1, 1, 0, 0, 1), box},
		{"n of 0 at both ends by little", mapped(1, 0, 19, 19, 0, 0, 17), box},
		{"n of 0 only at the lower end", changed(below, func(r *impl.Room) { r.Map = []int{1, 0, 0, 1} }), boxOf(-9, -9, 9, 9)},
		{"n of 0 only at the upper end", changed(above, func(r *impl.Room) { r.Map = []int{1, 0, 0, 1} }), boxOf(-9, -9, 9, 9)},
		{"n of 0 at single corners", mapped(1, 0, 20, 20, 0, 6, 15), box},
		{"no drive", mapped(0, 0, 1, 1, 0, 0, 1), box},
		{"no drive, only along x", mapped(0, 0, 10, 9, 0, 0, 8), box},
		{"no drive, only along y", mapped(0, 0, 10, 8, 0, 0, 9), box},
		{"A beyond the limit", mapped(0, 0, 20, 10, 0, 1, 1), far(5000, 1, 500000)},
		{"A beyond the lower limit", mapped(0, 0, 20, -10, 0, -1, 1), far(5000, 1, 4000000)},
		{"B beyond the limit", mapped(0, 0, 20, 1, 1, 0, 10), far(1, 5000, 500000)},
		{"C beyond the limit", mapped(0, 0, 20, 1, 0, 0, 1), far(5200, 1, 5201+5000001)},
	}
	for _, c := range append(halfCases(), countCases()...) {
		if c.step == 0 {
			list = append(list, noLawCase{c.name, c.r, c.p})
		}
	}
	return list
}

// nextToNoLawCases are next to those of noLawCases, but have a law, which consists of Low and High.
func nextToNoLawCases() []noLawCase {
	mapped := func(div int, m ...int) impl.Room {
		return changed(plainRoom(0, 0), func(r *impl.Room) { r.Map, r.Div = m, div })
	}
	far := func(a int, b int, c int) impl.Region { return regionOf(impl.Half{A: a, B: b, C: c}) }
	return []noLawCase{
		{"A at the limit", mapped(20, 10, 0, 0, 1), far(5000, 1, 500000)},
		{"A at the lower limit", mapped(20, -10, 0, 0, 1), far(5000, 1, 4000000)},
		{"B at the limit", mapped(20, 1, 0, 0, 10), far(1, 5000, 500000)},
		{"C at the limit", mapped(20, 1, 0, 0, 1), far(5200, 1, 5201+5000000)},
		{"A beyond the limit but for a common divisor", mapped(20, 10, 0, 0, 10), far(5001, 1, 500000)},
		{"C beyond the limit but for a common divisor", mapped(20, 2, 0, 0, 2), far(5200, 1, 5201+9000000)},
	}
}

func TestLawOf(t *testing.T) {
	for _, c := range lawCases() {
		want := impl.Law{Lows: c.lows, Highs: c.highs}
		checkLaw(t, c.name, c.r, c.p, want, true)
		checkLawOk(t, c.name, want, true)
		// Limits do not count.
		checkLaw(t, c.name, changed(c.r, func(r *impl.Room) { r.Limits = boxOf(700, 700, 701, 701) }), c.p, want, true)
		// The cases also show that the calculation used for the sweeps is right.
		if got, ok := lawByBig(c.r, c.p); !sameLaw(got, want) || !ok {
			t.Errorf("lawByBig: %s: %v, %v, want %v", c.name, got, ok, want)
		}
	}
	for _, c := range noLawCases() {
		checkLaw(t, c.name, c.r, c.p, impl.Law{}, false)
		if got, ok := lawByBig(c.r, c.p); ok {
			t.Errorf("lawByBig: %s: %v", c.name, got)
		}
	}
	for _, c := range nextToNoLawCases() {
		want := impl.Law{Lows: piecesOf(constant(c.r.Low)), Highs: piecesOf(constant(c.r.High))}
		checkLaw(t, c.name, c.r, c.p, want, true)
		if got, ok := lawByBig(c.r, c.p); !sameLaw(got, want) || !ok {
			t.Errorf("lawByBig: %s: %v, %v, want %v", c.name, got, ok, want)
		}
	}
}

// With n of 0, what is not valid counts even though p would be contained.
func TestLawOfOnlyNotValid(t *testing.T) {
	beyond := 0
	for _, c := range noLawCases() {
		robust, ok := robustByBig(c.r, c.p)
		if c.r.Div != 20 || c.r.Bx != 0 || !ok {
			continue
		}
		beyond++
		for _, s := range orderedCorners(c.p) {
			if image := mapByBig(pointOf(s), c.r.Map, c.r.Div); !image.liesIn(robust.Halves) {
				t.Errorf("%s: the law has another reason to fail", c.name)
			}
		}
	}
	if beyond != 4 {
		t.Errorf("%d cases", beyond)
	}
}

func TestLawOfWrongArguments(t *testing.T) {
	for _, r := range wrongRooms() {
		for _, p := range append(voidRegions(), boxOf(-20, -20, 20, 20), impl.Region{Halves: frameList()}, wrongRegions()[0], r.Limits) {
			checkLaw(t, "room not valid", r, p, impl.Law{}, false)
		}
	}
	list := slices.Concat(wrongRegions(), voidRegions(), []impl.Region{boxOf(0, 0, 0, 0), boxOf(-1, -1, 1001, 1), {Halves: make([]impl.Half, 100000)}})
	for _, p := range list {
		for _, r := range []impl.Room{someRoom(), plainRoom(0, 0), plainRoom(1, 0), halvingRoom()} {
			checkLaw(t, "region not valid", r, p, impl.Law{}, false)
		}
	}
	for _, n := range []int{math.MinInt, math.MinInt + 1, math.MaxInt - 1, math.MaxInt} {
		for i, h := range boxAnd(-9, -9, 9, 9) {
			for _, bad := range []impl.Half{{A: n, B: h.B, C: h.C}, {A: h.A, B: n, C: h.C}, {A: h.A, B: h.B, C: n}, {A: n, B: n, C: n}} {
				halves := boxAnd(-9, -9, 9, 9)
				halves[i] = bad
				checkLaw(t, "an int at an end of the range", halvingRoom(), impl.Region{Halves: halves}, impl.Law{}, false)
			}
		}
	}
}

func TestLawOfRoomsAtTheirLimits(t *testing.T) {
	found, none := 0, 0
	for _, r := range goodRooms() {
		for _, p := range []impl.Region{boxOf(-30, -40, 50, 60), {Halves: frameList()}, {Halves: triangleAnd()}, boxOf(-200, -300, 200, 300), r.Limits} {
			want, wantOk := lawByBig(r, p)
			checkLaw(t, "room at its limits", r, p, want, wantOk)
			if wantOk {
				found++
			} else {
				none++
			}
		}
	}
	if found < 100 || none < 30 {
		t.Errorf("%d found, %d none", found, none)
	}
}

// All numbers are at their limits or near them, so that every product is as great as it can get.
func TestLawOfGreatNumbers(t *testing.T) {
	source := rand.New(rand.NewPCG(12, 1))
	regions := []impl.Region{regionOf(impl.Half{A: maxCoef, B: maxCoef - 1, C: 99000000}, impl.Half{A: 1 - maxCoef, B: maxCoef, C: 98000003}),
		regionOf(impl.Half{A: -maxCoef, B: -49999, C: 99990000}, impl.Half{A: maxCoef, B: -49997, C: 3}), {Halves: frameList()},
		regionOf(impl.Half{A: 49999, B: 1, C: -45000000})}
	found, great := 0, 0
	for range 600 {
		r := changed(someRoom(), func(r *impl.Room) {
			r.Map = [][]int{{20, 20, -20, 20}, {-20, 20, 20, 20}, {20, 19, 20, 20}, {1, 0, 0, 1}, {20, 0, 1, -20}, {0, 1, 1, 0}, {1, -2, 2, 1}}[source.IntN(7)]
			r.Div = []int{20, 19, 17, 1}[source.IntN(4)]
			r.Bx, r.By = []int{100, 99, -100, 0, 1}[source.IntN(5)], []int{100, 97, -100, 0, -1}[source.IntN(5)]
			r.Low, r.High = -1000, 1000-source.IntN(2)
		})
		p := regions[source.IntN(len(regions))]
		want, wantOk := lawByBig(r, p)
		checkLaw(t, "great numbers", r, p, want, wantOk)
		if wantOk {
			found++
		}
		for _, q := range append(want.Lows, want.Highs...) {
			if q.D > 100000000 && max(q.C, -q.C) > 1000000000 {
				great++
			}
		}
	}
	if found < 200 || great < 20 {
		t.Errorf("%d found, %d with great numbers", found, great)
	}
}

func TestLawOfSweep(t *testing.T) {
	source := rand.New(rand.NewPCG(12, 2))
	found, none, both := 0, 0, 0
	for _, p := range movable(51, 12) {
		for range 12 {
			r := sweepRoom(source)
			want, wantOk := lawByBig(r, p)
			checkLaw(t, "sweep", r, p, want, wantOk)
			switch {
			case !wantOk:
				none++
			case len(want.Lows) > 2 && len(want.Highs) > 2:
				both++
			default:
				found++
			}
		}
	}
	if found < 50 || none < 50 || both < 50 {
		t.Errorf("%d found, %d none, %d with many pieces", found, none, both)
	}
}

// arch has 39 edges that face up, and one that faces down.
func arch() impl.Region {
	steps := []impl.Half{{B: 1}}
	for a := 1; a <= 5; a++ {
		for b := 1; b <= 5; b++ {
			if impl.GcdOf(a, b) == 1 {
				steps = append(steps, impl.Half{A: a, B: b}, impl.Half{A: -a, B: b})
			}
		}
	}
	slices.SortFunc(steps, compareAngles)
	x, y := 555, 0
	for i, d := range steps {
		steps[i].C = d.A*x + d.B*y
		x, y = x-10*d.B, y+10*d.A
	}
	return impl.Region{Halves: append(steps, impl.Half{B: -1})}
}

// As many functions as a region can have on one side: no list gets longer than MaxPieces.
func TestLawOfManyPieces(t *testing.T) {
	p := arch()
	if len(p.Halves) != maxHalves || !validRegionByBig(p) {
		t.Fatalf("%v is not valid", p)
	}
	r := changed(plainRoom(0, 1), func(r *impl.Room) { r.Noise = boxOf(0, 0, 1, 1) })
	for _, by := range []int{1, -1} {
		r.By = by
		want, wantOk := lawByBig(r, p)
		checkLaw(t, "many pieces", r, p, want, wantOk)
		l, ok := impl.LawOf(r, p)
		if !ok || max(len(l.Lows), len(l.Highs)) != maxPieces || min(len(l.Lows), len(l.Highs)) != 2 {
			t.Errorf("%d Lows, %d Highs, %v", len(l.Lows), len(l.Highs), ok)
		}
		checkLawOk(t, "many pieces", l, true)
		for _, s := range orderedCorners(p) {
			want, wantOk := admitByBig(r, p, s)
			checkLawAt(t, "many pieces", l, s, want, wantOk)
		}
	}
}

// A room that can be kept in a region has a law there, unless a half plane of the states is not valid.
func TestLawOfKeptRegions(t *testing.T) {
	source := rand.New(rand.NewPCG(12, 6))
	list := keepRooms()
	for range 300 {
		list = append(list, roundRoom(source))
	}
	found := 0
	for _, r := range list {
		kept, _ := impl.KeptRegion(r)
		if robust, _ := robustByBig(r, kept); len(robust.Halves) == 0 {
			continue
		}
		l, ok := impl.LawOf(r, kept)
		if !ok {
			t.Errorf("LawOf(%v, %v) = %v, %v", r, kept, l, ok)
		}
		for _, s := range orderedCorners(kept) {
			if w, ok := impl.LawAt(l, s); !ok && s.D <= maxLawDen {
				t.Errorf("LawAt(%v, %v) = %v, %v", l, s, w, ok)
			}
		}
		found++
	}
	if found < 30 {
		t.Errorf("%d found", found)
	}
}

type pieceCase struct {
	name string
	q    impl.Piece
	s    impl.Spot
	want impl.Ratio
	ok   bool
}

func pieceCases() []pieceCase {
	q, none := pieceOf(1, -2, 3, 4), impl.Ratio{}
	ratio := func(n int, d int) impl.Ratio { return impl.Ratio{N: n, D: d} }
	spot := func(x int, y int, d int) impl.Spot { return impl.Spot{X: x, Y: y, D: d} }
	// Both coordinates are as great as a state allows whose D divides no power of 10.
	far := spot(999000, 1000, 999)
	const top = maxPart
	return []pieceCase{
		{"0", q, spot(1, 2, 1), ratio(0, 1), true},
		{"a whole number", q, spot(5, 0, 1), ratio(2, 1), true},
		{"a negative whole number", q, spot(1, 6, 1), ratio(-2, 1), true},
		{"reduced", q, spot(3, 2, 1), ratio(1, 2), true},
		{"negative and reduced", q, spot(1, 3, 1), ratio(-1, 2), true},
		{"in lowest terms", q, spot(2, 1, 1), ratio(3, 4), true},
		{"at the origin", q, spot(0, 0, 1), ratio(3, 4), true},
		{"a state of fractions", q, spot(1, 2, 3), ratio(1, 2), true},
		{"a state of fractions, not reduced", q, spot(2, 3, 5), ratio(11, 20), true},
		{"a state of fractions below 0", q, spot(-3, 4, 7), ratio(5, 14), true},
		{"a whole number at a state of fractions", pieceOf(2, 2, 0, 1), spot(1, 1, 2), ratio(2, 1), true},
		{"a constant", constant(-7), spot(1, 2, 3), ratio(-7, 1), true},
		{"a constant fraction", pieceOf(0, 0, 3, 7), spot(1, 2, 3), ratio(3, 7), true},
		{"the constant 0", constant(0), spot(-9, 5, 8), ratio(0, 1), true},
		{"only A", pieceOf(3, 0, 0, 1), spot(2, 7, 1), ratio(6, 1), true},
		{"only B", pieceOf(0, 3, 0, 1), spot(2, 7, 1), ratio(21, 1), true},
		{"D of s of 1000", pieceOf(1, 0, 0, 1), spot(1, 7, 1000), ratio(1, 1000), true},
		{"D of s of 1001", pieceOf(1, 0, 0, 1), spot(1, 7, 1001), none, false},
		{"D of s of 1001 with a constant", constant(4), spot(1, 7, 1001), none, false},
		{"D of s of 2000 with a value of a smaller D", pieceOf(2000, 0, 0, 1), spot(1, 7, 2000), none, false},
		{"the greatest D of s", constant(4), spot(1, 7, maxDen), none, false},
		{"the greatest D of the value", pieceOf(1, 0, 0, top), spot(1, 0, 1000), ratio(1, maxDiv), true},
		{"the greatest D of the value below 0", pieceOf(-1, 1, 0, top), spot(1, 0, 1000), ratio(-1, maxDiv), true},
		{"the greatest N at a whole state", pieceOf(top, top, top, 1), spot(1000, 1000, 1), ratio(2001*top, 1), true},
		{"the greatest N of the value", pieceOf(top, top, 0, 1), far, ratio(maxNum, 999), true},
		{"one more than the greatest N", pieceOf(top, top-998, 999, 1), far, none, false},
		{"two less than the greatest N", pieceOf(top, top-2, 2, 1), far, ratio(maxNum-2, 999), true},
		{"one less than the greatest N, reduced", pieceOf(top, top-1, 1, 1), far, ratio(1001001001001001, 1), true},
		{"the least N of the value", pieceOf(-top, -top, 0, 1), far, ratio(-maxNum, 999), true},
		{"one less than the least N", pieceOf(-top, 998-top, -999, 1), far, none, false},
		{"more than the greatest N by the constant", pieceOf(top, top, 1, 1), far, none, false},
		{"far more than the greatest N", pieceOf(top-1, top-1, top, 1), spot(999999, 999998, 1000), none, false},
		{"far less than the least N", pieceOf(1-top, 1-top, -top, 1), spot(999999, 999998, 1000), none, false},
		{"more than the greatest N but for a common divisor", pieceOf(top, top, top, 1), spot(999999, 999998, 1000), ratio(2000997000000000, 1), true},
		{"a piece that is not valid", pieceOf(2, 4, 6, 8), spot(1, 2, 1), none, false},
		{"no piece", impl.Piece{}, spot(1, 2, 1), none, false},
		{"a D of 0", pieceOf(1, 2, 3, 0), spot(1, 2, 1), none, false},
		{"a D below 0", pieceOf(1, 2, 3, -4), spot(1, 2, 1), none, false},
		{"A beyond the limit", pieceOf(top+1, 0, 0, 1), spot(0, 0, 1), none, false},
		{"no state", q, impl.Spot{}, none, false},
		{"a state not in lowest terms", q, spot(2, 2, 2), none, false},
		{"a state outside the frame", q, spot(1001, 0, 1), none, false},
	}
}

func TestPieceAt(t *testing.T) {
	for _, c := range pieceCases() {
		checkPieceAt(t, c.name, c.q, c.s, c.want, c.ok)
		// The cases also show that the calculation used for the sweeps is right.
		got, ok := pieceAtByBig(c.q, c.s)
		checkRatio(t, "pieceAtByBig: "+c.name, c, got, ok, c.want, c.ok)
	}
}

// somePiece has numbers of every size.
func somePiece(source *rand.Rand) impl.Piece {
	for {
		most := []int{3, 50, 100000, maxPart}[source.IntN(4)]
		n := func() int { return source.IntN(2*most+1) - most }
		q := impl.Piece{A: n(), B: n(), C: n(), D: 1 + source.IntN([]int{1, 5, 1000, maxSlope, maxPart}[source.IntN(5)])}
		if source.IntN(9) == 0 {
			q = impl.Piece{A: maxPart - source.IntN(2), B: maxPart - source.IntN(3), C: -source.IntN(2) * maxPart, D: 1 + source.IntN(2)*(maxPart-1)}
		}
		if validPieceByBig(q) {
			return q
		}
	}
}

func TestPieceAtSweep(t *testing.T) {
	source := rand.New(rand.NewPCG(12, 3))
	found, great, none := 0, 0, 0
	for range 20000 {
		q, s := somePiece(source), someSpot(source, []int{3, maxLawDen, maxLawDen + 3}[source.IntN(3)])
		if source.IntN(4) == 0 {
			s = impl.Spot{X: maxPlace*s.D - 1, Y: maxPlace*s.D - source.IntN(3), D: s.D}
		}
		want, wantOk := pieceAtByBig(q, s)
		checkPieceAt(t, "sweep", q, s, want, wantOk)
		switch {
		case !wantOk && s.D <= maxLawDen && validSpotByBig(s):
			none++
		case wantOk && max(want.N, -want.N) > maxNum/4:
			great++
		case wantOk:
			found++
		}
	}
	if found < 5000 || great < 100 || none < 100 {
		t.Errorf("%d found, %d great, %d none", found, great, none)
	}
}

func TestPieceAtWrongArguments(t *testing.T) {
	for _, q := range wrongPieces() {
		for _, s := range []impl.Spot{{D: 1}, {X: 1, Y: 2, D: 3}, {X: 1000, Y: 1000, D: 1}, {}} {
			checkPieceAt(t, "piece not valid", q, s, impl.Ratio{}, false)
		}
	}
	for _, q := range []impl.Piece{constant(0), pieceOf(1, -2, 3, 4), pieceOf(maxPart, maxPart, maxPart, 1)} {
		for _, bad := range invalidSpots() {
			checkPieceAt(t, "state not valid", q, bad, impl.Ratio{}, false)
		}
		for _, s := range validSpots() {
			want, wantOk := pieceAtByBig(q, s)
			checkPieceAt(t, "state", q, s, want, wantOk)
		}
		for _, n := range append(spotInts(), 999, 1001) {
			for _, m := range []int{-1, 0, 1, 2} {
				for _, s := range []impl.Spot{{X: n, Y: m, D: 1}, {X: m, Y: n, D: 1}, {X: 1, Y: m, D: n}} {
					want, wantOk := pieceAtByBig(q, s)
					checkPieceAt(t, "state", q, s, want, wantOk)
				}
			}
		}
	}
}

type placeLawCase struct {
	name  string
	lows  []impl.Piece
	highs []impl.Piece
	s     impl.Spot
	want  impl.Span
	ok    bool
	low   int
	high  int
}

// lawPlaces are states of laws, with the span and the functions that count there.
func lawPlaces() []placeLawCase {
	none, x, back, up := impl.Span{}, pieceOf(1, 0, 0, 1), pieceOf(-1, 0, 0, 1), pieceOf(0, 1, 0, 1)
	low, high, origin := constant(-2), constant(2), impl.Spot{D: 1}
	far := impl.Spot{X: 999000, Y: 1000, D: 999}
	top, bottom, beyond, below := pieceOf(maxPart, maxPart, 0, 1), pieceOf(-maxPart, -maxPart, 0, 1), pieceOf(maxPart, maxPart, 1, 1), pieceOf(-maxPart, -maxPart, -1, 1)
	spot := func(x int, y int, d int) impl.Spot { return impl.Spot{X: x, Y: y, D: d} }
	return []placeLawCase{
		{"one of each", piecesOf(low), piecesOf(high), origin, spanOf(-2, 1, 2, 1), true, 0, 0},
		{"one of each, equal", piecesOf(x), piecesOf(x), spot(1, 0, 3), spanOf(1, 3, 1, 3), true, 0, 0},
		{"one of each, in the wrong order", piecesOf(high), piecesOf(low), origin, none, false, 0, 0},
		{"the first ones", piecesOf(low, x), piecesOf(high, up), spot(-3, 4, 1), spanOf(-2, 1, 2, 1), true, 0, 0},
		{"the last ones", piecesOf(low, x), piecesOf(high, up), spot(-1, 1, 1), spanOf(-1, 1, 1, 1), true, 1, 1},
		{"those in the middle", piecesOf(low, x, back), piecesOf(high, back, up), spot(1, 5, 2), spanOf(1, 2, -1, 2), false, 1, 1},
		{"those in the middle in order", piecesOf(low, back, x), piecesOf(high, x, up), spot(-1, 5, 2), spanOf(1, 2, -1, 2), false, 1, 1},
		{"those in the middle with a span", piecesOf(low, x, constant(-5)), piecesOf(high, up, constant(5)), spot(0, 1, 2), spanOf(0, 1, 1, 2), true, 1, 1},
		{"equal ends", piecesOf(low, x), piecesOf(high, up), spot(1, 1, 1), spanOf(1, 1, 1, 1), true, 1, 1},
		{"equal ends of fractions", piecesOf(low, x), piecesOf(high, up), spot(1, 1, 1000), spanOf(1, 1000, 1, 1000), true, 1, 1},
		{"ends in the wrong order by little", piecesOf(low, x), piecesOf(high, up), spot(2, 1, 1000), none, false, 1, 1},
		{"ends in order by little", piecesOf(low, x), piecesOf(high, up), spot(1, 2, 1000), spanOf(1, 1000, 1, 500), true, 1, 1},
		{"ends in the wrong order by the least", piecesOf(pieceOf(0, 0, 1, maxPart-1)), piecesOf(pieceOf(0, 0, 1, maxPart)), origin, none, false, 0, 0},
		{"a tie of the first two", piecesOf(x, up, low), piecesOf(x, up, high), spot(1, 1, 1), spanOf(1, 1, 1, 1), true, 0, 0},
		{"a tie of the last two", piecesOf(low, x, up), piecesOf(high, up, x), spot(1, 1, 1), spanOf(1, 1, 1, 1), true, 1, 1},
		{"a tie of the first and the last", piecesOf(x, low, up), piecesOf(up, high, x), spot(1, 1, 1), spanOf(1, 1, 1, 1), true, 0, 0},
		{"a tie of all", piecesOf(x, back, up), piecesOf(up, back, x), origin, spanOf(0, 1, 0, 1), true, 0, 0},
		{"equal functions", piecesOf(low, low, low), piecesOf(high, high), origin, spanOf(-2, 1, 2, 1), true, 0, 0},
		{"equal functions after a lesser one", piecesOf(constant(-3), low, low), piecesOf(constant(3), high, high), origin, spanOf(-2, 1, 2, 1), true, 1, 1},
		{"a tie that does not count", piecesOf(low, low, x), piecesOf(high, high, x), origin, spanOf(0, 1, 0, 1), true, 2, 2},
		{"no difference but by the least", piecesOf(pieceOf(0, 0, 1, maxPart), pieceOf(0, 0, 1, maxPart-1)), piecesOf(pieceOf(0, 0, 1, maxPart-2), pieceOf(0, 0, 1, maxPart-1)), origin, spanOf(1, maxPart-1, 1, maxPart-1), true, 1, 1},
		{"below 0", piecesOf(constant(-3), constant(-7)), piecesOf(constant(-1), constant(-2)), origin, spanOf(-3, 1, -2, 1), true, 0, 1},
		{"the greatest values", piecesOf(bottom, low), piecesOf(top, top), far, spanOf(-2, 1, maxNum, 999), true, 1, 0},
		{"a Low that is too great", piecesOf(low, beyond), piecesOf(top), far, none, false, -1, 0},
		{"a Low that is too small", piecesOf(below, low), piecesOf(top), far, none, false, -1, 0},
		{"a High that is too great", piecesOf(low), piecesOf(top, beyond), far, none, false, 0, -1},
		{"a High that is too small", piecesOf(low), piecesOf(below, top), far, none, false, 0, -1},
		{"a High in the middle that is too great", piecesOf(low, x), piecesOf(top, beyond, high), far, none, false, 1, -1},
		{"only Low, too great", piecesOf(beyond), piecesOf(high), far, none, false, -1, 0},
		{"only High, too great", piecesOf(low), piecesOf(beyond), far, none, false, 0, -1},
		{"both too great", piecesOf(beyond), piecesOf(beyond), far, none, false, -1, -1},
		{"D of s of 1000", piecesOf(low), piecesOf(high), spot(1, 7, 1000), spanOf(-2, 1, 2, 1), true, 0, 0},
		{"D of s of 1001", piecesOf(low), piecesOf(high), spot(1, 7, 1001), none, false, -1, -1},
		{"no state", piecesOf(low), piecesOf(high), impl.Spot{}, none, false, -1, -1},
		{"a state not in lowest terms", piecesOf(low), piecesOf(high), spot(2, 2, 2), none, false, -1, -1},
		{"a state outside the frame", piecesOf(low), piecesOf(high), spot(0, -1001, 1), none, false, -1, -1},
	}
}

func TestLawAtAndActive(t *testing.T) {
	for _, c := range lawPlaces() {
		l := impl.Law{Lows: c.lows, Highs: c.highs}
		if !c.ok {
			c.want = impl.Span{}
		}
		checkLawAt(t, c.name, l, c.s, c.want, c.ok)
		checkActive(t, c.name, l, c.s, c.low, c.high)
		// The cases also show that the calculation used for the sweeps is right.
		got, ok := lawAtByBig(l, c.s)
		checkSpan(t, "lawAtByBig: "+c.name, c, got, ok, c.want, c.ok)
		low, _ := activeByBig(l, l.Lows, c.s, 1)
		high, _ := activeByBig(l, l.Highs, c.s, -1)
		if low != c.low || high != c.high {
			t.Errorf("activeByBig: %s: %d, %d", c.name, low, high)
		}
	}
}

// someLaw has functions of small numbers, so that states at which several of them have the same value are frequent.
func someLaw(source *rand.Rand) impl.Law {
	list := func(about int) []impl.Piece {
		var list []impl.Piece
		for range 1 + source.IntN(5) {
			q := impl.Piece{A: source.IntN(5) - 2, B: source.IntN(5) - 2, C: about + source.IntN(9) - 4, D: 1 + source.IntN(2)}
			switch source.IntN(30) {
			case 0:
				q = somePiece(source)
			case 1:
				q = pieceOf(maxPart, maxPart, source.IntN(2), 1)
			}
			if validPieceByBig(q) {
				list = append(list, q)
			}
		}
		return list
	}
	return impl.Law{Lows: list(-9), Highs: list(9)}
}

func TestLawAtSweep(t *testing.T) {
	source := rand.New(rand.NewPCG(12, 4))
	counts := map[string]int{}
	for range 8000 {
		l, s := someLaw(source), impl.Spot{X: source.IntN(9) - 4, Y: source.IntN(9) - 4, D: 1}
		switch source.IntN(6) {
		case 0:
			s = impl.Spot{X: 999000, Y: 1000, D: 999}
		case 1:
			s = someSpot(source, maxLawDen+3)
		}
		want, wantOk := lawAtByBig(l, s)
		checkLawAt(t, "sweep", l, s, want, wantOk)
		low, least := activeByBig(l, l.Lows, s, 1)
		high, most := activeByBig(l, l.Highs, s, -1)
		checkActive(t, "sweep", l, s, low, high)
		switch {
		case !validLawByBig(l):
			counts["not valid"]++
		case low < 0 || high < 0:
			counts["no value"]++
		case wantOk && low > 0 && high > 0:
			counts["later ones"]++
		case wantOk:
			counts["first ones"]++
		case least.Cmp(most) > 0:
			counts["wrong order"]++
		}
	}
	for _, name := range []string{"not valid", "no value", "later ones", "first ones", "wrong order"} {
		if counts[name] < 100 {
			t.Errorf("%s: %d of %v", name, counts[name], counts)
		}
	}
}

func TestLawAtWrongStates(t *testing.T) {
	l := impl.Law{Lows: piecesOf(constant(-2), pieceOf(-1, 0, -4, 1)), Highs: piecesOf(constant(2), pieceOf(-1, 0, 4, 1))}
	for _, bad := range invalidSpots() {
		checkLawAt(t, "state not valid", l, bad, impl.Span{}, false)
		checkActive(t, "state not valid", l, bad, -1, -1)
	}
	for _, s := range validSpots() {
		want, wantOk := lawAtByBig(l, s)
		checkLawAt(t, "state", l, s, want, wantOk)
		low, _ := activeByBig(l, l.Lows, s, 1)
		high, _ := activeByBig(l, l.Highs, s, -1)
		checkActive(t, "state", l, s, low, high)
	}
}

// statesIn returns states of a region: its corners, its middle, the middles of its edges and some whole ones.
func statesIn(source *rand.Rand, p impl.Region) []impl.Spot {
	corners := orderedCorners(p)
	list := slices.Clone(corners)
	for i, s := range corners {
		for _, next := range []impl.Spot{corners[(i+1)%len(corners)], corners[source.IntN(len(corners))]} {
			if middle, ok := impl.HalfWay(s, next); ok {
				list = append(list, middle)
			}
		}
	}
	list = append(list, wholeSpotsOf(p)...)
	list = slices.DeleteFunc(list, func(s impl.Spot) bool { return s.D > maxLawDen || !liesInAll(p.Halves, s) })
	source.Shuffle(len(list), func(i int, k int) { list[i], list[k] = list[k], list[i] })
	return list[:min(len(list), 60)]
}

// The law gives exactly the inputs that are admitted at the states of p: all of them, and no other.
func TestLawAtIsAdmitAt(t *testing.T) {
	source := rand.New(rand.NewPCG(12, 5))
	laws, found, none, single, held := 0, 0, 0, 0, 0
	for _, p := range movable(52, 12) {
		for range 8 {
			r := sweepRoom(source)
			l, ok := impl.LawOf(r, p)
			if !ok {
				continue
			}
			laws++
			for _, s := range statesIn(source, p) {
				want, wantOk := impl.AdmitAt(r, p, s)
				checkLawAt(t, "admitted", l, s, want, wantOk)
				switch {
				case !wantOk:
					none++
				case want.Low == want.High:
					single++
				default:
					found++
				}
				for _, u := range []impl.Ratio{want.Low, want.High} {
					if wantOk && u.D <= maxInputDen {
						checkHeld(t, "the ends of the law", r, s, u, p, true)
						held++
					}
				}
			}
		}
	}
	if laws < 100 || found < 1000 || none < 500 || single < 20 || held < 1000 {
		t.Errorf("%d laws, %d found, %d none, %d single, %d held", laws, found, none, single, held)
	}
}

// In these rooms, the whole inputs that win the game on whole states are those of the law.
func TestLawWinsByPlaying(t *testing.T) {
	counts := map[int]int{}
	for v := 1; v <= 4; v++ {
		for _, r := range []impl.Room{changed(brakingRoom(v), func(r *impl.Room) { r.Limits = boxOf(-12, -2, 12, v) }), swingingRoom(v + 3)} {
			kept, _ := impl.KeptRegion(r)
			l, ok := impl.LawOf(r, kept)
			if !ok {
				t.Errorf("LawOf(%v, %v) = %v, %v", r, kept, l, ok)
			}
			states := gameStates(r, 0)
			for _, s := range wholeSpotsOf(kept) {
				w, _ := impl.LawAt(l, s)
				wins := 0
				for u := -5; u <= 5; u++ {
					is := within(u, r.Low, r.High) && winsAt(r, states, s, u)
					checkInSpan(t, "game", w, impl.Ratio{N: u, D: 1}, is)
					if is {
						wins++
					}
				}
				counts[wins]++
			}
		}
	}
	if counts[0] > 0 || counts[1] < 100 || counts[2] < 100 || counts[3] < 100 {
		t.Errorf("numbers of inputs: %v", counts)
	}
}

type coverCase struct {
	name string
	p    impl.Region
	lows []impl.Piece
	want []impl.Region
}

func coverCases() []coverCase {
	void, box := impl.Region{}, boxOf(-5, -9, 5, 9)
	x, back, y, zero := pieceOf(1, 0, 0, 1), pieceOf(-1, 0, 0, 1), pieceOf(0, 1, 0, 1), constant(0)
	left, right := boxOf(-5, -9, 0, 9), boxOf(0, -9, 5, 9)
	with := func(p impl.Region, more ...impl.Half) impl.Region {
		return regionOf(append(slices.Clone(p.Halves), more...)...)
	}
	regions := func(list ...impl.Region) []impl.Region { return list }
	fine, finer := pieceOf(1, 0, 0, maxSlope), pieceOf(-1, 0, 0, maxSlope)
	return []coverCase{
		{"one function", box, piecesOf(x), regions(box)},
		{"one constant", box, piecesOf(constant(-2)), regions(box)},
		{"one function with the greatest D", box, piecesOf(pieceOf(1, 2, 3, maxPart)), regions(box)},
		{"one function with the greatest numbers", box, piecesOf(pieceOf(maxPart, maxPart, maxPart, 1)), regions(box)},
		{"two functions", box, piecesOf(x, zero), regions(right, left)},
		{"two functions the other way", box, piecesOf(zero, x), regions(left, right)},
		{"the law of halvingRoom", box, piecesOf(constant(-2), pieceOf(-1, 0, -4, 1)), regions(boxOf(-2, -9, 5, 9), boxOf(-5, -9, -2, 9))},
		{"with a constant", box, piecesOf(pieceOf(1, 0, 3, 1), constant(5)), regions(boxOf(2, -9, 5, 9), boxOf(-5, -9, 2, 9))},
		{"with different D", box, piecesOf(pieceOf(1, 0, 3, 2), pieceOf(1, 0, 1, 3)), regions(with(box, impl.Half{A: -1, C: 7}), void)},
		{"with different D within p", box, piecesOf(pieceOf(1, 0, 3, 2), pieceOf(1, 0, 2, 3)), regions(with(box, impl.Half{A: -1, C: 5}), void)},
		{"with different D and both regions", box, piecesOf(pieceOf(1, 0, 2, 2), pieceOf(1, 0, 2, 3)), regions(boxOf(-2, -9, 5, 9), boxOf(-5, -9, -2, 9))},
		{"with a border of fractions", box, piecesOf(pieceOf(3, 0, 1, 2), zero), regions(with(box, impl.Half{A: -3, C: 1}), with(box, impl.Half{A: 3, C: -1}))},
		{"aslant", box, piecesOf(x, y), regions(with(box, impl.Half{A: -1, B: 1}), with(box, impl.Half{A: 1, B: -1}))},
		{"three that meet at a point", box, piecesOf(x, y, zero),
			regions(with(right, impl.Half{A: -1, B: 1}), with(box, impl.Half{A: 1, B: -1}, impl.Half{B: -1}), boxOf(-5, -9, 0, 0))},
		{"greatest only on a line", box, piecesOf(x, zero, back), regions(right, void, left)},
		{"greatest only at a point", box, piecesOf(x, back, y, pieceOf(0, -1, 0, 1), zero), regions(
			with(right, impl.Half{A: -1, B: 1}, impl.Half{A: -1, B: -1}), with(left, impl.Half{A: 1, B: 1}, impl.Half{A: 1, B: -1}),
			with(box, impl.Half{A: 1, B: -1}, impl.Half{A: -1, B: -1}), with(box, impl.Half{A: 1, B: 1}, impl.Half{A: -1, B: 1}), void)},
		{"greatest only on an edge of p", box, piecesOf(pieceOf(1, 0, -5, 1), zero), regions(void, box)},
		{"greatest only beyond p", box, piecesOf(zero, pieceOf(1, 0, -6, 1)), regions(box, void)},
		{"greatest beyond p and in it", box, piecesOf(zero, pieceOf(1, 0, -4, 1)), regions(boxOf(-5, -9, 4, 9), boxOf(4, -9, 5, 9))},
		{"nowhere greatest", box, piecesOf(x, back, constant(-1)), regions(right, left, void)},
		{"equal functions", box, piecesOf(x, x), regions(box, void)},
		{"equal constants", box, piecesOf(zero, zero, zero), regions(box, void, void)},
		{"equal functions and another one", box, piecesOf(x, zero, x, zero), regions(right, left, void, void)},
		{"equal functions after another one", box, piecesOf(zero, x, x), regions(left, right, void)},
		{"equal functions that are nowhere greatest", box, piecesOf(zero, constant(1), zero), regions(void, box, void)},
		{"equal slopes", box, piecesOf(x, pieceOf(1, 0, 1, 1)), regions(void, box)},
		{"equal slopes the other way", box, piecesOf(pieceOf(1, 0, 1, 1), x), regions(box, void)},
		{"equal slopes with different D", box, piecesOf(pieceOf(2, 4, 1, 6), pieceOf(1, 2, 0, 3)), regions(box, void)},
		{"equal slopes with different D the other way", box, piecesOf(pieceOf(1, 2, 0, 3), pieceOf(2, 4, 1, 6)), regions(void, box)},
		{"equal slopes that differ by little", box, piecesOf(pieceOf(0, 0, 1, maxSlope), pieceOf(0, 0, 1, maxSlope-1)), regions(void, box)},
		{"equal slopes of great numbers", box, piecesOf(pieceOf(maxPart, maxPart, maxPart, 1), pieceOf(maxPart, maxPart, maxPart-1, 1)), regions(box, void)},
		{"equal slopes far apart", box, piecesOf(constant(-maxPart), constant(maxPart)), regions(void, box)},
		{"equal slopes and another one", box, piecesOf(x, pieceOf(1, 0, 1, 1), zero), regions(void, boxOf(-1, -9, 5, 9), boxOf(-5, -9, -1, 9))},
		{"the same A/D, but not B/D", box, piecesOf(pieceOf(1, 1, 0, 1), x), regions(boxOf(-5, 0, 5, 9), boxOf(-5, -9, 5, 0))},
		{"the same B/D, but not A/D", box, piecesOf(pieceOf(1, 1, 0, 1), y), regions(right, left)},
		{"D of 1000000", box, piecesOf(fine, zero), regions(right, left)},
		{"D of 1000000 in both", box, piecesOf(finer, fine), regions(left, right)},
		{"great numbers that are reduced", box, piecesOf(pieceOf(maxPart, 0, 0, 1), zero), regions(right, left)},
		{"great numbers of both that are reduced", box, piecesOf(pieceOf(maxPart, -maxPart, maxPart, 999999), pieceOf(-maxPart, maxPart, -maxPart, 999997)),
			regions(with(box, impl.Half{A: -1, B: 1, C: 1}), with(box, impl.Half{A: 1, B: -1, C: -1}))},
		{"A at the limit", box, piecesOf(pieceOf(maxCoef, 0, 1, 1), zero), regions(with(box, impl.Half{A: -maxCoef, C: 1}), with(box, impl.Half{A: maxCoef, C: -1}))},
		{"B at the limit by both", box, piecesOf(pieceOf(0, maxCoef-1, 1, 1), pieceOf(0, -1, 0, 1)), regions(with(box, impl.Half{B: -maxCoef, C: 1}), with(box, impl.Half{B: maxCoef, C: -1}))},
		{"C at the limit", box, piecesOf(pieceOf(1, 0, maxTop, 1), zero), regions(box, void)},
		{"C at the lower limit", box, piecesOf(pieceOf(1, 0, -maxTop, 1), zero), regions(void, box)},
		{"a triangle", impl.Region{Halves: triangleAnd()}, piecesOf(x, y), regions(with(impl.Region{Halves: triangleAnd()}, impl.Half{A: -1, B: 1}), with(impl.Region{Halves: triangleAnd()}, impl.Half{A: 1, B: -1}))},
		{"the frame", impl.Region{Halves: frameList()}, piecesOf(pieceOf(1, 0, 0, 3), y), regions(with(impl.Region{}, impl.Half{A: -1, B: 3}), with(impl.Region{}, impl.Half{A: 1, B: -3}))},
		{"beyond Limits", boxOf(900, 900, 1000, 1000), piecesOf(x, y), regions(with(boxOf(900, 900, 1000, 1000), impl.Half{A: -1, B: 1}), with(boxOf(900, 900, 1000, 1000), impl.Half{A: 1, B: -1}))},
		{"a void region", void, piecesOf(x), regions(void)},
		{"a void region with functions", void, piecesOf(x, zero, x, constant(-1)), regions(void, void, void, void)},
		{"an empty region", impl.Region{Halves: []impl.Half{}}, piecesOf(x, zero), regions(void, void)},
		{"a void region with MaxPieces functions", void, manyPieces(maxPieces), make([]impl.Region, maxPieces)},
	}
}

type noCoverCase struct {
	name string
	r    impl.Room
	p    impl.Region
	lows []impl.Piece
}

// noCoverCases fail, each for one reason.
func noCoverCases() []noCoverCase {
	r, box, void := plainRoom(1, 0), boxOf(-5, -9, 5, 9), impl.Region{}
	x, zero := pieceOf(1, 0, 0, 1), constant(0)
	fine := pieceOf(1, 0, 0, maxSlope+1)
	steep, high, low := pieceOf(maxCoef+1, 0, 1, 1), pieceOf(1, 0, maxTop+1, 1), pieceOf(1, 0, -maxTop-1, 1)
	// 50001 stands with 0, 7 and 3 as differences of the constants, which reduce it, and only in the last pair with 4.
	lesser := piecesOf(pieceOf(maxCoef+1, 0, 0, 1), zero, pieceOf(maxCoef+1, 0, -3, 1), constant(-7))
	return []noCoverCase{
		{"no room", impl.Room{}, box, piecesOf(x)},
		{"no determinant", changed(r, func(r *impl.Room) { r.Map = []int{1, 1, 1, 1} }), box, piecesOf(x)},
		{"no room with a void region", impl.Room{}, void, piecesOf(x)},
		{"a region without one of its edges", r, impl.Region{Halves: box.Halves[1:]}, piecesOf(x)},
		{"a region that is a line", r, boxOf(-9, 0, 9, 0), piecesOf(x)},
		{"a region with an edge that is not needed", r, impl.Region{Halves: boxAnd(-9, -9, 9, 9, impl.Half{A: 1, B: -1, C: 20})}, piecesOf(x)},
		{"no Lows", r, box, nil},
		{"empty Lows", r, box, []impl.Piece{}},
		{"no Lows with a void region", r, void, nil},
		{"a Low that is not valid", r, box, piecesOf(x, pieceOf(2, 4, 6, 8), zero)},
		{"D of 1000001", r, box, piecesOf(fine, zero)},
		{"D of 1000001 in the last one", r, box, piecesOf(zero, x, fine)},
		{"D of 1000001 in the middle", r, box, piecesOf(zero, fine, x)},
		{"D of 1000001 in equal functions", r, box, piecesOf(fine, fine)},
		{"D of 1000001 in a constant", r, box, piecesOf(zero, pieceOf(0, 0, 1, maxSlope+1))},
		{"D of 1000001 with a void region", r, void, piecesOf(zero, fine)},
		{"the greatest D", r, box, piecesOf(zero, pieceOf(1, 0, 0, maxPart))},
		{"the greatest D in equal functions", r, box, piecesOf(pieceOf(1, 0, 0, maxPart), pieceOf(1, 0, 0, maxPart))},
		{"A beyond the limit", r, box, piecesOf(steep, zero)},
		{"A beyond the limit the other way", r, box, piecesOf(zero, steep)},
		{"A beyond the limit by the difference", r, box, piecesOf(pieceOf(maxCoef, 0, 1, 1), pieceOf(-1, 0, 0, 1))},
		{"B beyond the limit", r, box, piecesOf(pieceOf(0, maxCoef+1, 1, 1), zero)},
		{"C beyond the limit", r, box, piecesOf(high, zero)},
		{"C beyond the lower limit", r, box, piecesOf(low, zero)},
		{"C beyond the limit in the last one", r, box, piecesOf(zero, zero, high)},
		{"C beyond the limit with a void region", r, void, piecesOf(zero, low)},
		{"C beyond the limit where another one is greater", r, box, piecesOf(zero, low, constant(1))},
		{"C beyond the limit between functions that are nowhere greatest", r, box, piecesOf(pieceOf(1, 0, 9, 1), x, low, zero)},
		{"A beyond the limit by different D", r, box, piecesOf(pieceOf(1, 0, 1, 999), pieceOf(1, 0, 0, 1000), pieceOf(1, 1, 1, 51001))},
		{"A beyond the limit only between the last two, both nowhere greatest", r, box, lesser},
		{"A beyond the limit only between the last two, with a void region", r, void, lesser},
	}
}

func lawWithLows(lows []impl.Piece) impl.Law {
	return impl.Law{Lows: lows, Highs: piecesOf(constant(7))}
}

func TestLowRegions(t *testing.T) {
	r := plainRoom(1, 0)
	for _, c := range coverCases() {
		l := lawWithLows(c.lows)
		checkLowRegions(t, c.name, r, c.p, l, c.want, true)
		checkCover(t, c.name, c.p, c.lows, c.want)
		// Highs and the room do not count, as long as they are valid.
		for _, other := range []impl.Room{someRoom(), plainRoom(0, 0), changed(r, func(r *impl.Room) { r.Low, r.High, r.Limits = 5, 5, boxOf(700, 700, 701, 701) })} {
			checkLowRegions(t, c.name, other, c.p, impl.Law{Lows: c.lows, Highs: manyPieces(maxPieces)}, c.want, true)
		}
		checkLowRegions(t, c.name, r, c.p, impl.Law{Lows: c.lows, Highs: piecesOf(pieceOf(maxPart, maxPart, maxPart-1, maxPart))}, c.want, true)
		checkLowRegions(t, c.name, impl.Room{}, c.p, l, nil, false)
		checkLowRegions(t, c.name, r, c.p, impl.Law{Lows: c.lows}, nil, false)
		// The cases also show that the calculation used for the sweeps is right.
		got, ok := lowRegionsByBig(r, c.p, l)
		if !ok || !slices.EqualFunc(got, c.want, func(a impl.Region, b impl.Region) bool { return slices.Equal(a.Halves, b.Halves) }) {
			t.Errorf("lowRegionsByBig: %s: %v, %v, want %v", c.name, got, ok, c.want)
		}
	}
	for _, c := range noCoverCases() {
		checkLowRegions(t, c.name, c.r, c.p, lawWithLows(c.lows), nil, false)
		if got, ok := lowRegionsByBig(c.r, c.p, lawWithLows(c.lows)); ok {
			t.Errorf("lowRegionsByBig: %s: %v", c.name, got)
		}
	}
}

// p and Lows together have at most MaxHalves elements, even where not all of them are needed.
func TestLowRegionsCount(t *testing.T) {
	r := plainRoom(1, 0)
	for _, p := range []impl.Region{boxOf(-18, -9, 18, 9), {Halves: triangleAnd()}, lattice(38, 300, 5), lattice(39, 300, 5), lattice(40, 300, 5), {Halves: roundHalves(36, 500, 0)}, {}} {
		for n := 1; n <= maxPieces; n++ {
			for _, lows := range [][]impl.Piece{tangents(n), slices.Repeat(piecesOf(constant(3)), n)} {
				got, ok := impl.LowRegions(r, p, lawWithLows(lows))
				if ok != (n+len(p.Halves) <= maxHalves) || !ok && got != nil {
					t.Errorf("LowRegions of %d half planes and %d functions: %v, %v", len(p.Halves), n, got, ok)
				}
				if ok {
					checkCover(t, "count", p, lows, got)
				}
			}
		}
	}
}

// tangents are n tangents of x*x, that at x counting from x-1/2 to x+1/2.
func tangents(n int) []impl.Piece {
	var list []impl.Piece
	for i := range n {
		x := i - n/2
		list = append(list, pieceOf(2*x, 0, -x*x, 1))
	}
	return list
}

// Each whole state of a box has a square of its own.
func TestLowRegionsOfSquares(t *testing.T) {
	var lows []impl.Piece
	var want []impl.Region
	p := boxOf(-3, -2, 3, 3)
	for x := -3; x <= 2; x++ {
		for y := -2; y <= 3; y++ {
			lows = append(lows, pieceOf(2*x, 2*y, -x*x-y*y, 1))
			var square []impl.Half
			for _, d := range []impl.Half{{A: 1}, {B: 1}, {A: -1}, {B: -1}} {
				square = append(square, impl.Half{A: 2 * d.A, B: 2 * d.B, C: 2*(d.A*x+d.B*y) + 1})
			}
			if x == -3 {
				square[2] = impl.Half{A: -1, C: 3}
			}
			if x == 2 {
				square[0] = impl.Half{A: 1, C: 3}
			}
			if y == -2 {
				square[3] = impl.Half{B: -1, C: 2}
			}
			if y == 3 {
				square[1] = impl.Half{B: 1, C: 3}
			}
			want = append(want, impl.Region{Halves: square})
		}
	}
	checkLowRegions(t, "squares", plainRoom(1, 0), p, lawWithLows(lows), want, true)
	checkCover(t, "squares", p, lows, want)
	slices.Reverse(lows)
	slices.Reverse(want)
	checkLowRegions(t, "squares in the other order", plainRoom(1, 0), p, lawWithLows(lows), want, true)
	// One more function than p leaves room for.
	checkLowRegions(t, "too many", plainRoom(1, 0), p, lawWithLows(append(lows, constant(-99))), nil, false)
}

func checkLowRegionsByBig(t *testing.T, name string, r impl.Room, p impl.Region, l impl.Law) ([]impl.Region, bool) {
	t.Helper()
	want, wantOk := lowRegionsByBig(r, p, l)
	checkLowRegions(t, name, r, p, l, want, wantOk)
	if wantOk {
		checkCover(t, name, p, l.Lows, want)
	}
	return want, wantOk
}

// checkActiveIn checks that inside of a region ActiveLow is its index, so that no state lies inside of two regions.
func checkActiveIn(t *testing.T, p impl.Region, l impl.Law, regions []impl.Region) int {
	t.Helper()
	count := 0
	for _, s := range wholeSpotsOf(p) {
		low, has := impl.ActiveLow(l, s), 0
		if low < 0 {
			continue
		}
		for i, region := range regions {
			switch {
			case len(region.Halves) == 0:
			case !slices.ContainsFunc(region.Halves, func(h impl.Half) bool { return sideByBig(h, s) >= 0 }):
				if low != i {
					t.Errorf("%v lies in region %d of %v, and ActiveLow is %d", s, i, l.Lows, low)
				}
				count++
				has++
			case liesInAll(region.Halves, s):
				has++
			}
		}
		if has == 0 {
			t.Errorf("%v lies in no region of %v", s, l.Lows)
		}
	}
	return count
}

func TestLowRegionsSweep(t *testing.T) {
	source := rand.New(rand.NewPCG(12, 7))
	found, none, void, inside := 0, 0, 0, 0
	for _, p := range movable(53, 12) {
		if len(p.Halves) > 20 {
			continue
		}
		for range 6 {
			l := someLaw(source)
			regions, ok := checkLowRegionsByBig(t, "sweep", plainRoom(1, 0), p, l)
			if !ok {
				none++
				continue
			}
			found++
			for _, region := range regions {
				if len(region.Halves) == 0 {
					void++
				}
			}
			inside += checkActiveIn(t, p, l, regions)
		}
	}
	if found < 150 || none < 20 || void < 100 || inside < 10000 {
		t.Errorf("%d found, %d none, %d void regions, %d states inside", found, none, void, inside)
	}
}

// The regions of laws of rooms, and the inputs that are admitted there.
func TestLowRegionsOfLaws(t *testing.T) {
	source := rand.New(rand.NewPCG(12, 8))
	found, many, agreed := 0, 0, 0
	for range 250 {
		r := roundRoom(source)
		p := boxOf(-12, -11, 13, 12)
		if source.IntN(2) == 0 {
			p = regionOf(boxAnd(-12, -11, 13, 12, impl.Half{A: 1 + source.IntN(3), B: 2, C: 20}, impl.Half{A: -1, B: -1 - source.IntN(3), C: 20})...)
		}
		l, ok := impl.LawOf(r, p)
		if !ok {
			continue
		}
		regions, ok := checkLowRegionsByBig(t, "law", r, p, l)
		if !ok {
			continue
		}
		found++
		checkActiveIn(t, p, l, regions)
		for i, region := range regions {
			if len(region.Halves) > 0 && i > 0 {
				many++
			}
			for _, s := range orderedCorners(region) {
				w, ok := impl.AdmitAt(r, p, s)
				if value, _ := pieceAtByBig(l.Lows[i], s); ok && s.D <= maxLawDen {
					agreed++
					if w.Low != value {
						t.Errorf("%v and %v: in region %d, AdmitAt of %v = %v", r, p, i, s, w)
					}
				}
			}
		}
	}
	if found < 100 || many < 100 || agreed < 300 {
		t.Errorf("%d found, %d regions of later functions, %d states", found, many, agreed)
	}
}

func TestLowRegionsWrongArguments(t *testing.T) {
	l := lawWithLows(piecesOf(constant(-2), pieceOf(-1, 0, -4, 1)))
	single := lawWithLows(piecesOf(constant(-2)))
	for _, r := range wrongRooms() {
		for _, p := range append(voidRegions(), boxOf(-20, -20, 20, 20), wrongRegions()[0]) {
			checkLowRegions(t, "room not valid", r, p, l, nil, false)
			checkLowRegions(t, "room not valid", r, p, single, nil, false)
		}
	}
	list := append(wrongRegions(), boxOf(0, 0, 0, 0), boxOf(-1, -1, 1001, 1), impl.Region{Halves: make([]impl.Half, 100000)})
	for _, p := range list {
		checkLowRegions(t, "region not valid", plainRoom(1, 0), p, l, nil, false)
		checkLowRegions(t, "region not valid", someRoom(), p, single, nil, false)
	}
	for _, r := range goodRooms() {
		checkLowRegions(t, "room at its limits", r, boxOf(-5, -9, 5, 9), l, []impl.Region{boxOf(-2, -9, 5, 9), boxOf(-5, -9, -2, 9)}, true)
	}
	for _, n := range []int{math.MinInt, math.MinInt + 1, math.MaxInt - 1, math.MaxInt} {
		for i, h := range boxAnd(-9, -9, 9, 9) {
			for _, bad := range []impl.Half{{A: n, B: h.B, C: h.C}, {A: h.A, B: n, C: h.C}, {A: h.A, B: h.B, C: n}, {A: n, B: n, C: n}} {
				halves := boxAnd(-9, -9, 9, 9)
				halves[i] = bad
				checkLowRegions(t, "an int at an end of the range", plainRoom(1, 0), impl.Region{Halves: halves}, l, nil, false)
			}
		}
	}
}

// Only the arguments count: neither earlier calls, nor nil or empty lists.
func TestLawKeepsNoState(t *testing.T) {
	for range 2 {
		for _, c := range lawCases() {
			checkLaw(t, "again: "+c.name, c.r, c.p, impl.Law{Lows: c.lows, Highs: c.highs}, true)
		}
		for _, c := range noLawCases() {
			checkLaw(t, "again: "+c.name, c.r, c.p, impl.Law{}, false)
		}
		for _, c := range lawPlaces() {
			checkActive(t, "again: "+c.name, impl.Law{Lows: c.lows, Highs: c.highs}, c.s, c.low, c.high)
		}
		for _, c := range coverCases() {
			checkLowRegions(t, "again: "+c.name, plainRoom(1, 0), c.p, lawWithLows(c.lows), c.want, true)
		}
	}
	box := boxOf(-5, -9, 5, 9)
	for _, empty := range [][]impl.Half{nil, {}} {
		for _, r := range []impl.Room{changed(halvingRoom(), func(r *impl.Room) { r.Noise.Halves = empty }), changed(halvingRoom(), func(r *impl.Room) { r.Limits.Halves = empty })} {
			checkLaw(t, "no half planes", r, box, impl.Law{}, false)
			checkLowRegions(t, "no half planes", r, box, lawWithLows(piecesOf(constant(1))), nil, false)
		}
		checkLaw(t, "no half planes", halvingRoom(), impl.Region{Halves: empty}, impl.Law{}, false)
	}
	for _, empty := range [][]int{nil, {}} {
		r := changed(halvingRoom(), func(r *impl.Room) { r.Map = empty })
		checkLaw(t, "no map", r, box, impl.Law{}, false)
		checkLowRegions(t, "no map", r, box, lawWithLows(piecesOf(constant(1))), nil, false)
	}
	for _, empty := range [][]impl.Piece{nil, {}} {
		checkNoLaw(t, "no functions", impl.Law{Lows: empty, Highs: piecesOf(constant(1))})
		checkNoLaw(t, "no functions", impl.Law{Lows: piecesOf(constant(1)), Highs: empty})
		checkNoLaw(t, "no functions", impl.Law{Lows: empty, Highs: empty})
	}
}

// spare stands in the spare capacity behind the functions of a law.
var spare = impl.Piece{A: 71, B: 72, C: 73, D: 74}

func lawWithSpare(l impl.Law) impl.Law {
	behind := func(list []impl.Piece) []impl.Piece {
		return append(slices.Clone(list), slices.Repeat(piecesOf(spare), maxPieces+5)...)[:len(list)]
	}
	return impl.Law{Lows: behind(l.Lows), Highs: behind(l.Highs)}
}

func isLawUntouched(arg impl.Law, l impl.Law) bool {
	for _, list := range [][]impl.Piece{arg.Lows, arg.Highs} {
		if slices.ContainsFunc(list[len(list):len(list)+maxPieces+5], func(q impl.Piece) bool { return q != spare }) {
			return false
		}
	}
	return sameLaw(arg, l)
}

func TestLawLeavesItsArguments(t *testing.T) {
	found, regionsFound := 0, 0
	laws := []impl.Law{{}, lawWithLows(piecesOf(constant(1))), lawWithLows(piecesOf(constant(-2), pieceOf(-1, 0, -4, 1), constant(-2))), lawWithLows(tangents(36)), lawWithLows(piecesOf(impl.Piece{}))}
	for i, r := range argRooms() {
		for k, p := range append(argRegions(), r.Limits, boxOf(-30, -30, 30, 30)) {
			room, region := roomWithSpare(r), impl.Region{Halves: withSpare(p.Halves)}
			clipped, tight := roomClipped(r), impl.Region{Halves: slices.Clip(slices.Clone(p.Halves))}
			// The spare capacity behind an argument does not count, whatever it holds.
			want, wantOk := impl.LawOf(clipped, tight)
			checkLaw(t, "spare", room, region, want, wantOk)
			if wantOk {
				found++
			}
			l := laws[(i+k)%len(laws)]
			law := lawWithSpare(l)
			regions, ok := impl.LowRegions(clipped, tight, l)
			checkLowRegions(t, "spare", room, region, law, regions, ok)
			if ok {
				regionsFound++
			}
			if !isRoomUntouched(room, r) || !isUntouched(region.Halves, p.Halves) || !isLawUntouched(law, l) {
				t.Errorf("%v, %v or %v is changed to %v, %v or %v", r, p, l, room, region, law)
			}
		}
	}
	if found < 100 || regionsFound < 100 {
		t.Errorf("%d laws, %d lists of regions", found, regionsFound)
	}
	for _, c := range lawPlaces() {
		l := impl.Law{Lows: c.lows, Highs: c.highs}
		law := lawWithSpare(l)
		want, wantOk := impl.LawAt(l, c.s)
		checkLawAt(t, "spare", law, c.s, want, wantOk)
		checkActive(t, "spare", law, c.s, c.low, c.high)
		if impl.LawOk(law) != impl.LawOk(l) || !isLawUntouched(law, l) {
			t.Errorf("%v is changed to %v", l, law)
		}
	}
}

// Whatever happens to an argument, to another result or to the spare capacity behind it, a result stays as it is.
func TestLawSharesNoMemory(t *testing.T) {
	for _, c := range lawCases() {
		room, region := roomWithSpare(c.r), impl.Region{Halves: withSpare(c.p.Halves)}
		first, _ := impl.LawOf(room, region)
		second, _ := impl.LawOf(room, region)
		scribbleEach(room, func() {})
		scribble(region.Halves)
		scribble(second.Lows)
		scribble(second.Highs)
		if want := (impl.Law{Lows: c.lows, Highs: c.highs}); !sameLaw(first, want) {
			t.Errorf("%s: %v, want %v", c.name, first, want)
		}
		scribble(first.Lows)
		if !slices.Equal(first.Highs, c.highs) {
			t.Errorf("%s: Highs share memory with Lows", c.name)
		}
	}
	for _, c := range coverCases() {
		room, region, l := roomWithSpare(plainRoom(1, 0)), impl.Region{Halves: withSpare(c.p.Halves)}, lawWithSpare(lawWithLows(c.lows))
		first, _ := impl.LowRegions(room, region, l)
		second, _ := impl.LowRegions(room, region, l)
		for _, other := range second {
			scribble(other.Halves)
		}
		scribble(second)
		scribbleEach(room, func() {})
		scribble(region.Halves)
		scribble(l.Lows)
		scribble(l.Highs)
		for i := range first {
			if !slices.Equal(first[i].Halves, c.want[i].Halves) {
				t.Errorf("%s: region %d is %v, want %v", c.name, i, first[i], c.want[i])
			}
			// All later regions have to stay as they are.
			scribble(first[i].Halves)
		}
	}
}

// The same list as Lows and as Highs, and the same as Noise, as Limits and as p.
func TestLawOfSharedLists(t *testing.T) {
	list := piecesOf(constant(1), pieceOf(1, 0, 0, 1), pieceOf(0, -1, 3, 2))
	shared := lawWithSpare(impl.Law{Lows: list}).Lows
	l := impl.Law{Lows: shared, Highs: shared}
	for _, s := range []impl.Spot{{D: 1}, {X: 1, Y: 1, D: 1}, {X: 5, Y: -3, D: 2}} {
		want, wantOk := lawAtByBig(impl.Law{Lows: list, Highs: slices.Clone(list)}, s)
		checkLawAt(t, "shared", l, s, want, wantOk)
	}
	for _, halves := range [][]impl.Half{boxAnd(-5, -5, 5, 5), diamond(7), frameList()} {
		same := withSpare(halves)
		r := changed(halvingRoom(), func(r *impl.Room) { r.Div = 3 })
		r.Limits.Halves = same
		p := impl.Region{Halves: same}
		for _, noise := range []impl.Region{boxOf(-1, -1, 1, 1), p} {
			r.Noise = noise
			want, wantOk := lawByBig(roomClipped(r), impl.Region{Halves: slices.Clone(halves)})
			checkLaw(t, "shared", r, p, want, wantOk)
			checkLowRegionsByBig(t, "shared", r, p, l)
		}
		if !isUntouched(same, halves) || !isLawUntouched(l, impl.Law{Lows: list, Highs: list}) {
			t.Fatalf("%v is changed to %v, or the law to %v", halves, same, l)
		}
	}
}
