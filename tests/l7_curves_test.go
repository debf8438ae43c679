package tests

import (
	"math"
	"math/big"
	"math/rand"
	"slices"
	"strconv"
	"testing"

	"loop.example/g00853/impl"
)

var someLifts = []int{0, 1, 2, 3, 5, 10, 39, 40, 41, 70, 99, 100, 101, 250, 500, 998, 999, 1000}

var someSlopes = []int{0, 1, 2, 3, 4, 7, 10, 50, 333, 999, 1000}

var otherCurveValues = []int{-1, 1001, -1000, 2000, -40, -100, 1 << 32, math.MinInt, math.MaxInt}

var otherRaises = []int{-1001, 1001, -1002, 2000, 1 << 32, -1 << 32, math.MinInt, math.MaxInt}

// curve returns the curve with these points, each a flow and a head.
func curve(points ...[2]int) []impl.CurvePoint {
	list := []impl.CurvePoint{}
	for _, p := range points {
		list = append(list, impl.CurvePoint{Flow: p[0], Head: p[1]})
	}
	return list
}

// pump returns a curve that falls more and more steeply.
func pump() []impl.CurvePoint { return curve([2]int{0, 100}, [2]int{10, 80}, [2]int{20, 40}) }

// sixPoints returns a curve with as many points as there may be, and pieces of six slopes.
func sixPoints() []impl.CurvePoint {
	return curve([2]int{0, 90}, [2]int{7, 88}, [2]int{12, 70}, [2]int{13, 41}, [2]int{40, 31}, [2]int{47, 0})
}

// wholeRange returns the curve that meets all limits at once.
func wholeRange() []impl.CurvePoint { return curve([2]int{0, 1000}, [2]int{1000, 0}) }

// isCurve reports whether c is a curve: from its flows and heads by themselves.
func isCurve(c []impl.CurvePoint) bool {
	flows, heads := []int{}, []int{}
	for _, p := range c {
		flows = append(flows, p.Flow)
		heads = append(heads, p.Head)
	}
	slices.Reverse(heads)
	for _, list := range [][]int{flows, heads} {
		inRange := !slices.ContainsFunc(list, func(value int) bool { return value != min(max(value, 0), 1000) })
		ascending := slices.Compact(slices.Sorted(slices.Values(list)))
		if !inRange || !slices.Equal(list, ascending) {
			return false
		}
	}
	return slices.Contains([]int{2, 3, 4, 5, 6}, len(c)) && flows[0] == 0
}

// subsets returns all ascending lists of numbers below a bound.
func subsets(bound int) [][]int {
	list := [][]int{}
	for bits := range 1 << bound {
		some := []int{}
		for number := range bound {
			if bits>>number&1 == 1 {
				some = append(some, number)
			}
		}
		list = append(list, some)
	}
	return list
}

// curveOf returns the curve with the given ascending flows and with the given heads, of which
// the order is the opposite.
func curveOf(flows []int, heads []int) []impl.CurvePoint {
	c := []impl.CurvePoint{}
	for i, flow := range flows {
		c = append(c, impl.CurvePoint{Flow: flow, Head: heads[len(heads)-1-i]})
	}
	return c
}

// smallCurves returns all curves with flows and heads below 5.
func smallCurves() [][]impl.CurvePoint {
	list := [][]impl.CurvePoint{}
	for _, flows := range subsets(5) {
		for _, heads := range subsets(5) {
			if len(flows) >= 2 && len(flows) == len(heads) && flows[0] == 0 {
				list = append(list, curveOf(flows, heads))
			}
		}
	}
	return list
}

// drawnCurve returns a curve with some points, and with flows and heads below two bounds.
func drawnCurve(r *rand.Rand, points int, flowBound int, headBound int) []impl.CurvePoint {
	flows, heads := []int{0}, r.Perm(headBound)[:points]
	for _, flow := range r.Perm(flowBound - 1)[:points-1] {
		flows = append(flows, 1+flow)
	}
	slices.Sort(flows)
	slices.Sort(heads)
	return curveOf(flows, heads)
}

// mixedCurves returns curves of two to six points from a fixed seed: short and long ones, low
// and high ones.
func mixedCurves() [][]impl.CurvePoint {
	r := rand.New(rand.NewSource(71))
	list := [][]impl.CurvePoint{}
	for _, bounds := range [][2]int{{6, 6}, {12, 12}, {60, 60}, {12, 200}, {200, 12}, {1001, 1001}, {8, 1001}, {1001, 8}} {
		for points := 2; points <= 6; points++ {
			for range 8 {
				list = append(list, drawnCurve(r, points, bounds[0], bounds[1]))
			}
		}
	}
	return list
}

// knownCurves returns the curves that meet the limits and those of the known values below.
func knownCurves() [][]impl.CurvePoint {
	return [][]impl.CurvePoint{
		pump(), sixPoints(), wholeRange(),
		curve([2]int{0, 1}, [2]int{1, 0}), curve([2]int{0, 1000}, [2]int{1, 0}), curve([2]int{0, 1}, [2]int{1000, 0}), curve([2]int{0, 1000}, [2]int{1000, 999}),
		curve([2]int{0, 1000}, [2]int{1, 999}, [2]int{2, 998}, [2]int{3, 997}, [2]int{4, 996}, [2]int{5, 995}),
		curve([2]int{0, 1000}, [2]int{996, 4}, [2]int{997, 3}, [2]int{998, 2}, [2]int{999, 1}, [2]int{1000, 0}),
		curve([2]int{0, 1000}, [2]int{1, 3}, [2]int{1000, 2}), curve([2]int{0, 1000}, [2]int{999, 999}, [2]int{1000, 0}),
		curve([2]int{0, 997}, [2]int{991, 0}), curve([2]int{0, 999}, [2]int{983, 1}), curve([2]int{0, 998}, [2]int{977, 3}),
	}
}

// someCurves returns curves of many kinds.
func someCurves() [][]impl.CurvePoint {
	return slices.Concat(knownCurves(), smallCurves(), mixedCurves())
}

// withPoint returns the curve c with another point at a place.
func withPoint(c []impl.CurvePoint, place int, flow int, head int) []impl.CurvePoint {
	other := slices.Clone(c)
	other[place] = impl.CurvePoint{Flow: flow, Head: head}
	return other
}

// invalidCurves returns lists of points that are no curves, by what is wrong.
func invalidCurves() map[string][]impl.CurvePoint {
	list := map[string][]impl.CurvePoint{
		"nil":                   nil,
		"no points":             {},
		"one point":             pump()[:1],
		"one point at 0":        curve([2]int{0, 0}),
		"seven points":          append(sixPoints()[:5], curve([2]int{41, 20}, [2]int{47, 0})...),
		"eight points":          append(sixPoints()[:5], curve([2]int{41, 20}, [2]int{42, 10}, [2]int{47, 0})...),
		"100000 points":         make([]impl.CurvePoint, 100000),
		"first flow 1":          withPoint(pump(), 0, 1, 100),
		"first flow 9":          withPoint(pump(), 0, 9, 100),
		"first flow -1":         withPoint(pump(), 0, -1, 100),
		"without its beginning": pump()[1:],
		"backwards":             {{Flow: 20, Head: 40}, {Flow: 10, Head: 80}, {Flow: 0, Head: 100}},
		"ascending":             {{Flow: 0, Head: 40}, {Flow: 10, Head: 80}, {Flow: 20, Head: 100}},
		"all equal":             slices.Repeat(curve([2]int{0, 50}), 3),
		"level":                 curve([2]int{0, 50}, [2]int{10, 50}),
		"upright":               curve([2]int{0, 50}, [2]int{0, 40}),
		"last flow 1001":        curve([2]int{0, 1000}, [2]int{1001, 0}),
		"first head 1001":       curve([2]int{0, 1001}, [2]int{1000, 0}),
		"last head -1":          curve([2]int{0, 1000}, [2]int{1000, -1}),
		"all heads above 1000":  curve([2]int{0, 1002}, [2]int{10, 1001}),
		"all heads below 0":     curve([2]int{0, -1}, [2]int{10, -2}),
		"greatest numbers":      curve([2]int{0, math.MaxInt}, [2]int{math.MaxInt, math.MinInt}),
		"smallest numbers":      curve([2]int{math.MinInt, math.MaxInt}, [2]int{0, 0}),
	}
	for place, p := range sixPoints() {
		name := "point " + strconv.Itoa(place)
		for _, flow := range []int{-1, 1001, math.MinInt, math.MaxInt} {
			list[name+", flow "+strconv.Itoa(flow)] = withPoint(sixPoints(), place, flow, p.Head)
		}
		for _, head := range []int{-1, 1001, math.MinInt, math.MaxInt} {
			list[name+", head "+strconv.Itoa(head)] = withPoint(sixPoints(), place, p.Flow, head)
		}
		if place == 0 {
			continue
		}
		before := sixPoints()[place-1]
		list[name+", equal flow"] = withPoint(sixPoints(), place, before.Flow, p.Head)
		list[name+", descending flow"] = withPoint(sixPoints(), place, before.Flow-1, p.Head)
		list[name+", equal head"] = withPoint(sixPoints(), place, p.Flow, before.Head)
		list[name+", ascending head"] = withPoint(sixPoints(), place, p.Flow, before.Head+1)
	}
	return list
}

// wholeNumber returns a whole number as a big.Rat.
func wholeNumber(number int) *big.Rat { return big.NewRat(int64(number), 1) }

// clamped returns the number in 0..most that is nearest to another one.
func clamped(number *big.Rat, most *big.Rat) *big.Rat {
	if number.Sign() < 0 {
		return new(big.Rat)
	}
	if number.Cmp(most) > 0 {
		return most
	}
	return number
}

// wantedHead returns the first head less what each piece of the curve loses up to a flow that
// the curve has.
func wantedHead(c []impl.CurvePoint, flow *big.Rat) *big.Rat {
	head := wholeNumber(c[0].Head)
	for i := 1; i < len(c); i++ {
		length := wholeNumber(c[i].Flow - c[i-1].Flow)
		passed := clamped(new(big.Rat).Sub(flow, wholeNumber(c[i-1].Flow)), length)
		lost := new(big.Rat).Mul(passed, wholeNumber(c[i-1].Head-c[i].Head))
		head.Sub(head, lost.Quo(lost, length))
	}
	return head
}

// wantedGiven returns the sum of what each piece of the curve gives down to a head, which may be
// above or below all heads of the curve.
func wantedGiven(c []impl.CurvePoint, head *big.Rat) *big.Rat {
	flow := new(big.Rat)
	for i := 1; i < len(c); i++ {
		height := wholeNumber(c[i-1].Head - c[i].Head)
		fallen := clamped(new(big.Rat).Sub(wholeNumber(c[i-1].Head), head), height)
		given := new(big.Rat).Mul(fallen, wholeNumber(c[i].Flow-c[i-1].Flow))
		flow.Add(flow, given.Quo(given, height))
	}
	return flow
}

// lastOf returns the last point of a curve.
func lastOf(c []impl.CurvePoint) impl.CurvePoint { return c[len(c)-1] }

// numbersAround returns the whole numbers from one to another one: all of them if there are few,
// else those near the ends and near some places, and some in between.
func numbersAround(from int, to int, places []int) []int {
	list := []int{}
	for number := from; number <= to; number++ {
		near := slices.ContainsFunc(places, func(place int) bool { return place-2 <= number && number <= place+2 })
		if to-from < 60 || near || number-from < 3 || to-number < 3 || number%37 == 0 {
			list = append(list, number)
		}
	}
	return list
}

// flowsOf returns flows of a curve: at its points, near them, and between them.
func flowsOf(c []impl.CurvePoint) []int {
	places := []int{}
	for _, p := range c {
		places = append(places, p.Flow)
	}
	return numbersAround(0, lastOf(c).Flow, places)
}

// headsOf returns heads of a curve: at its points, near them, and between them.
func headsOf(c []impl.CurvePoint) []int {
	places := []int{}
	for _, p := range c {
		places = append(places, p.Head)
	}
	return numbersAround(lastOf(c).Head, c[0].Head, places)
}

func TestSomeCurvesAreOfManyKinds(t *testing.T) {
	points := map[int]int{}
	for _, c := range someCurves() {
		if !isCurve(c) {
			t.Fatal("not valid:", c)
		}
		points[len(c)]++
	}
	for number := 2; number <= 6; number++ {
		if points[number] < 50 {
			t.Error("too few curves of", number, "points:", points[number])
		}
	}
	for name, c := range invalidCurves() {
		if isCurve(c) {
			t.Error("valid:", name)
		}
	}
}

func TestIsValidCurveMeetsTheLimits(t *testing.T) {
	for _, c := range someCurves() {
		if !impl.IsValidCurve(c) {
			t.Error("refused", c)
		}
	}
	for name, c := range invalidCurves() {
		if impl.IsValidCurve(c) {
			t.Error("accepted", name)
		}
	}
}

func TestIsValidCurveFollowsFlowsAndHeads(t *testing.T) {
	points := []impl.CurvePoint{}
	for _, flow := range []int{-1, 0, 1, 2, 999, 1000, 1001} {
		for _, head := range []int{-1, 0, 1, 2, 999, 1000, 1001} {
			points = append(points, impl.CurvePoint{Flow: flow, Head: head})
		}
	}
	check := func(c ...impl.CurvePoint) {
		if impl.IsValidCurve(c) != isCurve(c) {
			t.Fatalf("IsValidCurve(%v) = %v", c, impl.IsValidCurve(c))
		}
	}
	for _, first := range points {
		check(first)
		for _, second := range points {
			check(first, second)
			for _, third := range points {
				check(first, second, third)
			}
		}
	}
}

func TestIsValidCurveFollowsEveryPoint(t *testing.T) {
	for _, c := range append(knownCurves(), mixedCurves()...) {
		for place, p := range c {
			for value := -3; value <= 1003; value++ {
				for _, other := range [][]impl.CurvePoint{withPoint(c, place, value, p.Head), withPoint(c, place, p.Flow, value)} {
					if impl.IsValidCurve(other) != isCurve(other) {
						t.Fatalf("IsValidCurve(%v) = %v", other, impl.IsValidCurve(other))
					}
				}
			}
		}
		for end := range c {
			for _, part := range [][]impl.CurvePoint{c[:end], c[end:], without(c, end), slices.Insert(slices.Clone(c), end, c[end])} {
				if impl.IsValidCurve(part) != isCurve(part) {
					t.Fatalf("IsValidCurve(%v) = %v", part, impl.IsValidCurve(part))
				}
			}
		}
	}
}

func TestKnownHeads(t *testing.T) {
	for _, k := range []struct {
		c              []impl.CurvePoint
		flow, num, den int
	}{
		{pump(), 0, 100, 1}, {pump(), 1, 98, 1}, {pump(), 5, 90, 1}, {pump(), 9, 82, 1}, {pump(), 10, 80, 1}, {pump(), 11, 76, 1}, {pump(), 13, 68, 1}, {pump(), 19, 44, 1}, {pump(), 20, 40, 1},
		{sixPoints(), 0, 90, 1}, {sixPoints(), 1, 628, 7}, {sixPoints(), 6, 618, 7}, {sixPoints(), 7, 88, 1}, {sixPoints(), 8, 422, 5}, {sixPoints(), 12, 70, 1}, {sixPoints(), 13, 41, 1}, {sixPoints(), 14, 1097, 27}, {sixPoints(), 16, 359, 9}, {sixPoints(), 40, 31, 1}, {sixPoints(), 46, 31, 7}, {sixPoints(), 47, 0, 1},
		{wholeRange(), 0, 1000, 1}, {wholeRange(), 1, 999, 1}, {wholeRange(), 1000, 0, 1},
		{curve([2]int{0, 1}, [2]int{1000, 0}), 1, 999, 1000}, {curve([2]int{0, 1}, [2]int{1000, 0}), 500, 1, 2}, {curve([2]int{0, 1}, [2]int{1000, 0}), 998, 1, 500}, {curve([2]int{0, 1}, [2]int{1000, 0}), 999, 1, 1000}, {curve([2]int{0, 1}, [2]int{1000, 0}), 1000, 0, 1},
		{curve([2]int{0, 1000}, [2]int{1000, 999}), 500, 1999, 2}, {curve([2]int{0, 1000}, [2]int{6, 0}), 2, 2000, 3}, {curve([2]int{0, 1000}, [2]int{6, 0}), 3, 500, 1}, {curve([2]int{0, 1000}, [2]int{6, 0}), 4, 1000, 3},
	} {
		if num, den, ok := impl.HeadAt(k.c, k.flow); !ok || num != k.num || den != k.den {
			t.Errorf("HeadAt(%v, %d) = %d, %d, %v, want %d, %d", k.c, k.flow, num, den, ok, k.num, k.den)
		}
	}
}

func TestHeadsFollowTheCurve(t *testing.T) {
	broken := 0
	for _, c := range someCurves() {
		for _, flow := range flowsOf(c) {
			num, den, ok := impl.HeadAt(c, flow)
			if !ok || !isFraction(num, den, wantedHead(c, wholeNumber(flow))) {
				t.Fatalf("HeadAt(%v, %d) = %d, %d, %v, want %v", c, flow, num, den, ok, wantedHead(c, wholeNumber(flow)))
			}
			if den != 1 {
				broken++
			}
		}
		for _, p := range c {
			if num, den, ok := impl.HeadAt(c, p.Flow); !ok || num != p.Head || den != 1 {
				t.Fatalf("HeadAt(%v, %d) = %d, %d, %v", c, p.Flow, num, den, ok)
			}
		}
	}
	if broken < 1000 {
		t.Error("too few heads that are no whole numbers:", broken)
	}
}

func TestNoHeadBeyondTheEnds(t *testing.T) {
	for _, c := range someCurves() {
		last := lastOf(c).Flow
		for _, flow := range []int{-1, -2, -last, last + 1, last + 2, 1001, 2000, -1000, 1 << 32, math.MinInt, math.MaxInt} {
			if num, den, ok := impl.HeadAt(c, flow); ok || num != 0 || den != 0 {
				t.Fatalf("HeadAt(%v, %d) = %d, %d, %v", c, flow, num, den, ok)
			}
		}
	}
}

func TestKnownFlows(t *testing.T) {
	for _, k := range []struct {
		c              []impl.CurvePoint
		head, num, den int
	}{
		{pump(), 100, 0, 1}, {pump(), 99, 1, 2}, {pump(), 90, 5, 1}, {pump(), 81, 19, 2}, {pump(), 80, 10, 1}, {pump(), 79, 41, 4}, {pump(), 70, 25, 2}, {pump(), 41, 79, 4}, {pump(), 40, 20, 1},
		{sixPoints(), 90, 0, 1}, {sixPoints(), 89, 7, 2}, {sixPoints(), 88, 7, 1}, {sixPoints(), 87, 131, 18}, {sixPoints(), 79, 19, 2}, {sixPoints(), 70, 12, 1}, {sixPoints(), 69, 349, 29}, {sixPoints(), 41, 13, 1}, {sixPoints(), 40, 157, 10}, {sixPoints(), 36, 53, 2}, {sixPoints(), 31, 40, 1}, {sixPoints(), 1, 1450, 31}, {sixPoints(), 0, 47, 1},
		{wholeRange(), 1000, 0, 1}, {wholeRange(), 1, 999, 1}, {wholeRange(), 0, 1000, 1},
		{curve([2]int{0, 1000}, [2]int{1, 0}), 999, 1, 1000}, {curve([2]int{0, 1000}, [2]int{1, 0}), 500, 1, 2}, {curve([2]int{0, 1000}, [2]int{1, 0}), 2, 499, 500}, {curve([2]int{0, 1000}, [2]int{1, 0}), 1, 999, 1000}, {curve([2]int{0, 1000}, [2]int{1, 0}), 0, 1, 1},
		{curve([2]int{0, 6}, [2]int{1000, 0}), 4, 1000, 3}, {curve([2]int{0, 6}, [2]int{1000, 0}), 3, 500, 1}, {curve([2]int{0, 6}, [2]int{1000, 0}), 2, 2000, 3},
	} {
		if num, den, ok := impl.FlowAt(k.c, k.head); !ok || num != k.num || den != k.den {
			t.Errorf("FlowAt(%v, %d) = %d, %d, %v, want %d, %d", k.c, k.head, num, den, ok, k.num, k.den)
		}
	}
}

func TestFlowsFollowTheCurve(t *testing.T) {
	broken := 0
	for _, c := range someCurves() {
		for _, head := range headsOf(c) {
			num, den, ok := impl.FlowAt(c, head)
			if !ok || !isFraction(num, den, wantedGiven(c, wholeNumber(head))) {
				t.Fatalf("FlowAt(%v, %d) = %d, %d, %v, want %v", c, head, num, den, ok, wantedGiven(c, wholeNumber(head)))
			}
			if wantedHead(c, big.NewRat(int64(num), int64(den))).Cmp(wholeNumber(head)) != 0 {
				t.Fatalf("FlowAt(%v, %d) = %d, %d, where the head is another one", c, head, num, den)
			}
			if den != 1 {
				broken++
			}
		}
		for _, p := range c {
			if num, den, ok := impl.FlowAt(c, p.Head); !ok || num != p.Flow || den != 1 {
				t.Fatalf("FlowAt(%v, %d) = %d, %d, %v", c, p.Head, num, den, ok)
			}
		}
	}
	if broken < 1000 {
		t.Error("too few flows that are no whole numbers:", broken)
	}
}

func TestNoFlowBeyondTheEnds(t *testing.T) {
	for _, c := range someCurves() {
		first, last := c[0].Head, lastOf(c).Head
		for _, head := range []int{last - 1, last - 2, first + 1, first + 2, -1, -first, 1001, 2000, -1000, 1 << 32, math.MinInt, math.MaxInt} {
			if num, den, ok := impl.FlowAt(c, head); ok || num != 0 || den != 0 {
				t.Fatalf("FlowAt(%v, %d) = %d, %d, %v", c, head, num, den, ok)
			}
		}
	}
}

func TestKnownParallelFlows(t *testing.T) {
	high := curve([2]int{0, 300}, [2]int{7, 200})
	low := curve([2]int{0, 30}, [2]int{3, 0})
	for _, k := range []struct {
		list           [][]impl.CurvePoint
		head, num, den int
	}{
		{[][]impl.CurvePoint{pump()}, 0, 20, 1}, {[][]impl.CurvePoint{pump()}, 39, 20, 1}, {[][]impl.CurvePoint{pump()}, 40, 20, 1}, {[][]impl.CurvePoint{pump()}, 41, 79, 4}, {[][]impl.CurvePoint{pump()}, 99, 1, 2}, {[][]impl.CurvePoint{pump()}, 100, 0, 1}, {[][]impl.CurvePoint{pump()}, 101, 0, 1}, {[][]impl.CurvePoint{pump()}, 1000, 0, 1},
		{[][]impl.CurvePoint{pump(), pump()}, 90, 10, 1}, {[][]impl.CurvePoint{pump(), pump()}, 30, 40, 1}, {[][]impl.CurvePoint{pump(), pump()}, 110, 0, 1}, {[][]impl.CurvePoint{pump(), pump()}, 99, 1, 1}, {[][]impl.CurvePoint{pump(), pump()}, 41, 79, 2},
		{[][]impl.CurvePoint{high, low}, 0, 10, 1}, {[][]impl.CurvePoint{high, low}, 1, 99, 10}, {[][]impl.CurvePoint{high, low}, 29, 71, 10}, {[][]impl.CurvePoint{high, low}, 30, 7, 1}, {[][]impl.CurvePoint{high, low}, 31, 7, 1}, {[][]impl.CurvePoint{high, low}, 199, 7, 1}, {[][]impl.CurvePoint{high, low}, 200, 7, 1}, {[][]impl.CurvePoint{low, high}, 201, 693, 100}, {[][]impl.CurvePoint{high, low}, 300, 0, 1}, {[][]impl.CurvePoint{high, low}, 301, 0, 1},
		{[][]impl.CurvePoint{pump(), high, low}, 79, 69, 4}, {[][]impl.CurvePoint{low, pump(), sixPoints(), high}, 0, 77, 1}, {[][]impl.CurvePoint{low, pump(), sixPoints(), high}, 29, 20941, 310}, {[][]impl.CurvePoint{low, pump(), sixPoints(), high}, 1000, 0, 1},
		{slices.Repeat([][]impl.CurvePoint{wholeRange()}, 4), 0, 4000, 1}, {slices.Repeat([][]impl.CurvePoint{wholeRange()}, 4), 1, 3996, 1}, {slices.Repeat([][]impl.CurvePoint{wholeRange()}, 4), 1000, 0, 1},
	} {
		if num, den, ok := impl.ParallelFlow(k.list, k.head); !ok || num != k.num || den != k.den {
			t.Errorf("ParallelFlow(%v, %d) = %d, %d, %v, want %d, %d", k.list, k.head, num, den, ok, k.num, k.den)
		}
	}
}

// primeCurves returns four curves whose heads, and whose flows, have denominators without a
// common divisor.
func primeCurves() [][]impl.CurvePoint {
	return [][]impl.CurvePoint{
		curve([2]int{0, 997}, [2]int{991, 0}), curve([2]int{0, 999}, [2]int{983, 16}),
		curve([2]int{0, 998}, [2]int{977, 27}), curve([2]int{0, 1000}, [2]int{997, 33}),
	}
}

// someLists returns lists of one to four curves: equal ones, and others from a fixed seed.
func someLists() [][][]impl.CurvePoint {
	r := rand.New(rand.NewSource(72))
	lists := [][][]impl.CurvePoint{primeCurves(), slices.Repeat([][]impl.CurvePoint{wholeRange()}, 4)}
	for _, all := range [][][]impl.CurvePoint{knownCurves(), smallCurves(), mixedCurves(), someCurves()} {
		for number := 1; number <= 4; number++ {
			for range 50 {
				list := [][]impl.CurvePoint{}
				for range number {
					list = append(list, all[r.Intn(len(all))])
				}
				lists = append(lists, list)
			}
			lists = append(lists, slices.Repeat([][]impl.CurvePoint{all[r.Intn(len(all))]}, number))
		}
	}
	return lists
}

func TestParallelFlowsAreSums(t *testing.T) {
	above, below, broken := 0, 0, 0
	for _, list := range someLists() {
		heads := []int{0, 1, 2, 3, 5, 50, 100, 500, 501, 997, 998, 999, 1000}
		for _, c := range list {
			for _, p := range c {
				heads = append(heads, max(p.Head-1, 0), p.Head, min(p.Head+1, 1000))
			}
		}
		for _, head := range heads {
			want := new(big.Rat)
			for _, c := range list {
				want.Add(want, wantedGiven(c, wholeNumber(head)))
				if head > c[0].Head {
					above++
				}
				if head < lastOf(c).Head {
					below++
				}
			}
			num, den, ok := impl.ParallelFlow(list, head)
			if !ok || !isFraction(num, den, want) {
				t.Fatalf("ParallelFlow(%v, %d) = %d, %d, %v, want %v", list, head, num, den, ok, want)
			}
			if den != 1 {
				broken++
			}
		}
	}
	if above < 1000 || below < 1000 || broken < 1000 {
		t.Error("too few beyond the ends or no whole numbers:", above, below, broken)
	}
}

func TestKnownSeriesHeads(t *testing.T) {
	long := curve([2]int{0, 300}, [2]int{60, 200})
	for _, k := range []struct {
		list           [][]impl.CurvePoint
		flow, num, den int
	}{
		{[][]impl.CurvePoint{pump()}, 0, 100, 1}, {[][]impl.CurvePoint{pump()}, 13, 68, 1}, {[][]impl.CurvePoint{pump()}, 20, 40, 1},
		{[][]impl.CurvePoint{pump(), pump()}, 0, 200, 1}, {[][]impl.CurvePoint{pump(), pump()}, 5, 180, 1}, {[][]impl.CurvePoint{pump(), pump()}, 20, 80, 1},
		{[][]impl.CurvePoint{pump(), long}, 0, 400, 1}, {[][]impl.CurvePoint{pump(), long}, 1, 1189, 3}, {[][]impl.CurvePoint{long, pump()}, 10, 1090, 3}, {[][]impl.CurvePoint{long, pump()}, 20, 920, 3}, {[][]impl.CurvePoint{long, long}, 1, 1790, 3}, {[][]impl.CurvePoint{long, long, long}, 1, 895, 1}, {[][]impl.CurvePoint{long, long, long, long}, 60, 800, 1},
		{[][]impl.CurvePoint{pump(), sixPoints(), long}, 8, 6826, 15}, {[][]impl.CurvePoint{pump(), sixPoints(), long, wholeRange()}, 8, 21706, 15},
		{slices.Repeat([][]impl.CurvePoint{wholeRange()}, 4), 0, 4000, 1}, {slices.Repeat([][]impl.CurvePoint{wholeRange()}, 4), 999, 4, 1}, {slices.Repeat([][]impl.CurvePoint{wholeRange()}, 4), 1000, 0, 1},
	} {
		if num, den, ok := impl.SeriesHead(k.list, k.flow); !ok || num != k.num || den != k.den {
			t.Errorf("SeriesHead(%v, %d) = %d, %d, %v, want %d, %d", k.list, k.flow, num, den, ok, k.num, k.den)
		}
	}
}

// shortestLast returns the smallest last flow of a list of curves.
func shortestLast(list [][]impl.CurvePoint) int {
	last := lastOf(list[0]).Flow
	for _, c := range list {
		last = min(last, lastOf(c).Flow)
	}
	return last
}

func TestSeriesHeadsAreSums(t *testing.T) {
	broken := 0
	for _, list := range someLists() {
		last := shortestLast(list)
		for _, flow := range numbersAround(0, last, []int{1, 12, 500}) {
			want := new(big.Rat)
			for _, c := range list {
				want.Add(want, wantedHead(c, wholeNumber(flow)))
			}
			num, den, ok := impl.SeriesHead(list, flow)
			if !ok || !isFraction(num, den, want) {
				t.Fatalf("SeriesHead(%v, %d) = %d, %d, %v, want %v", list, flow, num, den, ok, want)
			}
			if den != 1 {
				broken++
			}
		}
		for _, flow := range []int{-1, -2, last + 1, last + 2, 1001, 2000, 1 << 32, math.MinInt, math.MaxInt} {
			if num, den, ok := impl.SeriesHead(list, flow); ok || num != 0 || den != 0 {
				t.Fatalf("SeriesHead(%v, %d) = %d, %d, %v", list, flow, num, den, ok)
			}
		}
	}
	if broken < 1000 {
		t.Error("too few heads that are no whole numbers:", broken)
	}
}

func TestEqualPumpsGiveTwiceTheFlowOrHead(t *testing.T) {
	for _, c := range someCurves() {
		for pumps := 1; pumps <= 4; pumps++ {
			list := slices.Repeat([][]impl.CurvePoint{c}, pumps)
			for _, head := range headsOf(c) {
				one, oneDen, found := impl.FlowAt(c, head)
				num, den, ok := impl.ParallelFlow(list, head)
				if !found || !ok || !isFraction(num, den, big.NewRat(int64(pumps*one), int64(oneDen))) {
					t.Fatalf("one curve %v gives %d, %d at %d, and %d give %d, %d, %v", c, one, oneDen, head, pumps, num, den, ok)
				}
			}
			for _, flow := range flowsOf(c) {
				one, oneDen, found := impl.HeadAt(c, flow)
				num, den, ok := impl.SeriesHead(list, flow)
				if !found || !ok || !isFraction(num, den, big.NewRat(int64(pumps*one), int64(oneDen))) {
					t.Fatalf("one curve %v has %d, %d at %d, and %d have %d, %d, %v", c, one, oneDen, flow, pumps, num, den, ok)
				}
			}
		}
	}
}

func TestKnownWorkingPoints(t *testing.T) {
	flat, steep, level := curve([2]int{0, 1}, [2]int{1000, 0}), curve([2]int{0, 1000}, [2]int{1, 0}), curve([2]int{0, 1000}, [2]int{1000, 999})
	for _, k := range []struct {
		c                                       []impl.CurvePoint
		lift, slope, num, den, headNum, headDen int
	}{
		{pump(), 0, 4, 15, 1, 60, 1}, {pump(), 0, 2, 20, 1, 40, 1}, {pump(), 0, 3, 120, 7, 360, 7}, {pump(), 0, 8, 10, 1, 80, 1}, {pump(), 0, 10, 25, 3, 250, 3}, {pump(), 0, 1000, 50, 501, 50000, 501},
		{pump(), 40, 0, 20, 1, 40, 1}, {pump(), 41, 0, 79, 4, 41, 1}, {pump(), 70, 0, 25, 2, 70, 1}, {pump(), 80, 0, 10, 1, 80, 1}, {pump(), 81, 0, 19, 2, 81, 1}, {pump(), 99, 0, 1, 2, 99, 1}, {pump(), 99, 1, 1, 3, 298, 3},
		{pump(), 20, 1, 20, 1, 40, 1}, {pump(), 21, 1, 99, 5, 204, 5}, {pump(), 69, 1, 51, 5, 396, 5}, {pump(), 70, 1, 10, 1, 80, 1}, {pump(), 71, 1, 29, 3, 242, 3},
		{pump(), 100, 0, 0, 1, 100, 1}, {pump(), 100, 1, 0, 1, 100, 1}, {pump(), 100, 1000, 0, 1, 100, 1},
		{sixPoints(), 0, 0, 47, 1, 0, 1}, {sixPoints(), 31, 0, 40, 1, 31, 1}, {sixPoints(), 2, 3, 13, 1, 41, 1}, {sixPoints(), 10, 5, 12, 1, 70, 1}, {sixPoints(), 39, 7, 7, 1, 88, 1}, {sixPoints(), 90, 7, 0, 1, 90, 1},
		{sixPoints(), 8, 6, 263, 24, 295, 4}, {sixPoints(), 3, 3, 415, 32, 1341, 32}, {sixPoints(), 1, 3, 1210, 91, 3721, 91}, {sixPoints(), 0, 1, 1237, 37, 1237, 37},
		{wholeRange(), 0, 0, 1000, 1, 0, 1}, {wholeRange(), 1, 0, 999, 1, 1, 1}, {wholeRange(), 0, 1, 500, 1, 500, 1}, {wholeRange(), 0, 1000, 1000, 1001, 1000000, 1001}, {wholeRange(), 1, 1000, 999, 1001, 1000001, 1001}, {wholeRange(), 999, 1000, 1, 1001, 1000999, 1001}, {wholeRange(), 1000, 0, 0, 1, 1000, 1}, {wholeRange(), 1000, 1000, 0, 1, 1000, 1},
		{flat, 0, 0, 1000, 1, 0, 1}, {flat, 0, 1, 1000, 1001, 1000, 1001}, {flat, 0, 1000, 1000, 1000001, 1000000, 1000001}, {flat, 1, 0, 0, 1, 1, 1}, {flat, 1, 1000, 0, 1, 1, 1},
		{steep, 0, 0, 1, 1, 0, 1}, {steep, 0, 1000, 1, 2, 500, 1}, {steep, 500, 0, 1, 2, 500, 1}, {steep, 1, 1, 999, 1001, 2000, 1001}, {steep, 1000, 1000, 0, 1, 1000, 1},
		{level, 999, 0, 1000, 1, 999, 1}, {level, 0, 1, 1000000, 1001, 1000000, 1001}, {level, 1000, 0, 0, 1, 1000, 1},
	} {
		if num, den, ok := impl.WorkingPoint(k.c, k.lift, k.slope); !ok || num != k.num || den != k.den {
			t.Errorf("WorkingPoint(%v, %d, %d) = %d, %d, %v, want %d, %d", k.c, k.lift, k.slope, num, den, ok, k.num, k.den)
		}
		if num, den, ok := impl.WorkingHead(k.c, k.lift, k.slope); !ok || num != k.headNum || den != k.headDen {
			t.Errorf("WorkingHead(%v, %d, %d) = %d, %d, %v, want %d, %d", k.c, k.lift, k.slope, num, den, ok, k.headNum, k.headDen)
		}
	}
}

// checkNoWork checks that there is no working point and no working head.
func checkNoWork(t *testing.T, c []impl.CurvePoint, lift int, slope int) {
	t.Helper()
	if num, den, ok := impl.WorkingPoint(c, lift, slope); ok || num != 0 || den != 0 {
		t.Errorf("WorkingPoint(%v, %d, %d) = %d, %d, %v", c, lift, slope, num, den, ok)
	}
	if num, den, ok := impl.WorkingHead(c, lift, slope); ok || num != 0 || den != 0 {
		t.Errorf("WorkingHead(%v, %d, %d) = %d, %d, %v", c, lift, slope, num, den, ok)
	}
}

func TestNoWorkingPointWhereTheCurveEnds(t *testing.T) {
	for _, need := range [][2]int{{0, 0}, {39, 0}, {0, 1}, {19, 1}, {101, 0}, {101, 1}, {101, 1000}, {1000, 0}, {1000, 1000}} {
		checkNoWork(t, pump(), need[0], need[1])
	}
	for _, need := range [][2]int{{0, 0}, {998, 0}} {
		checkNoWork(t, curve([2]int{0, 1000}, [2]int{1000, 999}), need[0], need[1])
	}
	for _, c := range someCurves() {
		for _, slope := range someSlopes {
			if c[0].Head < 1000 {
				checkNoWork(t, c, c[0].Head+1, slope)
				checkNoWork(t, c, 1000, slope)
			}
			// This lift would do exactly at the last point, if it is none below 0.
			if lift := lastOf(c).Head - slope*lastOf(c).Flow; lift > 0 {
				checkNoWork(t, c, lift-1, slope)
				checkNoWork(t, c, 0, slope)
			}
		}
	}
}

// needs returns the head that a resistance needs for a flow.
func needs(lift int, slope int, flow *big.Rat) *big.Rat {
	head := new(big.Rat).Mul(wholeNumber(slope), flow)
	return head.Add(head, wholeNumber(lift))
}

// liftsFor returns lifts for a curve and a slope: those that do exactly at a point of the curve
// or nearly so, and others.
func liftsFor(c []impl.CurvePoint, slope int) []int {
	lifts := slices.Clone(someLifts)
	for _, p := range c {
		for by := -1; by <= 1; by++ {
			if lift := p.Head - slope*p.Flow + by; 0 <= lift && lift <= 1000 {
				lifts = append(lifts, lift)
			}
		}
	}
	return lifts
}

func TestAtTheWorkingPointACurveGivesWhatIsNeeded(t *testing.T) {
	starts, ends, points, between, none := 0, 0, 0, 0, 0
	for _, c := range someCurves() {
		for _, slope := range someSlopes {
			for _, lift := range liftsFor(c, slope) {
				if c[0].Head < lift || lastOf(c).Head > lift+slope*lastOf(c).Flow {
					checkNoWork(t, c, lift, slope)
					none++
					continue
				}
				num, den, ok := impl.WorkingPoint(c, lift, slope)
				if !ok || num < 0 || den < 1 || num > lastOf(c).Flow*den {
					t.Fatalf("WorkingPoint(%v, %d, %d) = %d, %d, %v", c, lift, slope, num, den, ok)
				}
				flow := big.NewRat(int64(num), int64(den))
				if !isFraction(num, den, flow) || wantedHead(c, flow).Cmp(needs(lift, slope, flow)) != 0 {
					t.Fatalf("WorkingPoint(%v, %d, %d) = %d, %d, where %v is needed of %v", c, lift, slope, num, den, needs(lift, slope, flow), wantedHead(c, flow))
				}
				headNum, headDen, ok := impl.WorkingHead(c, lift, slope)
				if !ok || !isFraction(headNum, headDen, wantedHead(c, flow)) {
					t.Fatalf("WorkingHead(%v, %d, %d) = %d, %d, %v, want %v", c, lift, slope, headNum, headDen, ok, wantedHead(c, flow))
				}
				switch {
				case num == 0:
					starts++
				case flow.Cmp(wholeNumber(lastOf(c).Flow)) == 0:
					ends++
				case slices.ContainsFunc(c, func(p impl.CurvePoint) bool { return flow.Cmp(wholeNumber(p.Flow)) == 0 }):
					points++
				default:
					between++
				}
			}
		}
	}
	if min(starts, ends, points, between, none) < 500 {
		t.Error("too few of some kind:", starts, ends, points, between, none)
	}
}

func TestWorkingPointsAgreeWithHeadsAndFlows(t *testing.T) {
	wholeFlows, wholeHeads := 0, 0
	for _, c := range someCurves() {
		for _, slope := range someSlopes {
			for _, lift := range liftsFor(c, slope) {
				num, den, ok := impl.WorkingPoint(c, lift, slope)
				headNum, headDen, _ := impl.WorkingHead(c, lift, slope)
				if ok && den == 1 {
					wholeFlows++
					if x, y, found := impl.HeadAt(c, num); !found || x != headNum || y != headDen {
						t.Fatalf("HeadAt(%v, %d) = %d, %d, %v, but the working head is %d, %d", c, num, x, y, found, headNum, headDen)
					}
				}
				if ok && headDen == 1 {
					wholeHeads++
					if x, y, found := impl.FlowAt(c, headNum); !found || x != num || y != den {
						t.Fatalf("FlowAt(%v, %d) = %d, %d, %v, but the working point is at %d, %d", c, headNum, x, y, found, num, den)
					}
				}
			}
		}
	}
	if wholeFlows < 1000 || wholeHeads < 1000 {
		t.Error("too few whole numbers:", wholeFlows, wholeHeads)
	}
}

func TestKnownRaisedCurves(t *testing.T) {
	for _, k := range []struct {
		head int
		want []impl.CurvePoint
	}{
		{0, pump()}, {5, curve([2]int{0, 105}, [2]int{10, 85}, [2]int{20, 45})}, {-5, curve([2]int{0, 95}, [2]int{10, 75}, [2]int{20, 35})},
		{-40, curve([2]int{0, 60}, [2]int{10, 40}, [2]int{20, 0})}, {900, curve([2]int{0, 1000}, [2]int{10, 980}, [2]int{20, 940})},
		{-41, nil}, {901, nil}, {1000, nil}, {-1000, nil}, {-100, nil}, {-80, nil}, {920, nil}, {960, nil},
	} {
		if raised, ok := impl.RaiseCurve(pump(), k.head); ok != (k.want != nil) || !slices.Equal(raised, k.want) {
			t.Errorf("RaiseCurve(%v, %d) = %v, %v, want %v", pump(), k.head, raised, ok, k.want)
		}
	}
	low, high := curve([2]int{0, 1}, [2]int{10, 0}), curve([2]int{0, 1000}, [2]int{10, 999})
	if raised, ok := impl.RaiseCurve(low, 999); !ok || !slices.Equal(raised, high) {
		t.Error("up to the limit", raised, ok)
	}
	if raised, ok := impl.RaiseCurve(high, -999); !ok || !slices.Equal(raised, low) {
		t.Error("down to the limit", raised, ok)
	}
}

func TestRaisedCurvesFollowTheHeads(t *testing.T) {
	raisedOnes, none := 0, 0
	for _, c := range someCurves() {
		lowest, highest := -lastOf(c).Head, 1000-c[0].Head
		for _, by := range []int{-1000, -999, -500, -100, -10, -3, -2, -1, 0, 1, 2, 3, 10, 100, 500, 999, 1000, lowest - 1, lowest, lowest + 1, highest - 1, highest, highest + 1} {
			want := []impl.CurvePoint{}
			for _, p := range c {
				want = append(want, impl.CurvePoint{Flow: p.Flow, Head: p.Head + by})
			}
			raised, ok := impl.RaiseCurve(c, by)
			if by < max(lowest, -1000) || by > min(highest, 1000) {
				none++
				want = nil
			}
			if ok != (want != nil) || !slices.Equal(raised, want) {
				t.Fatalf("RaiseCurve(%v, %d) = %v, %v, want %v", c, by, raised, ok, want)
			}
			if !ok {
				continue
			}
			raisedOnes++
			if back, ok := impl.RaiseCurve(raised, -by); !ok || !slices.Equal(back, c) {
				t.Fatalf("RaiseCurve(%v, %d) = %v, %v", raised, -by, back, ok)
			}
			if above, ok := impl.IsAbove(raised, c); !ok || above != (by >= 0) {
				t.Fatalf("IsAbove(%v, %v) = %v, %v", raised, c, above, ok)
			}
		}
	}
	if raisedOnes < 1000 || none < 1000 {
		t.Error("too few of some kind:", raisedOnes, none)
	}
}

func TestKnownCurvesAbove(t *testing.T) {
	straight := curve([2]int{0, 100}, [2]int{20, 40})
	for name, k := range map[string]struct {
		a, b       []impl.CurvePoint
		over, back bool
	}{
		"equal":                               {pump(), pump(), true, true},
		"raised by 1":                         {curve([2]int{0, 101}, [2]int{10, 81}, [2]int{20, 41}), pump(), true, false},
		"touch at the ends":                   {pump(), straight, true, false},
		"touch at a point":                    {curve([2]int{0, 120}, [2]int{10, 80}, [2]int{20, 70}), pump(), true, false},
		"touch at the beginning":              {curve([2]int{0, 100}, [2]int{20, 99}), pump(), true, false},
		"touch at the last flow":              {curve([2]int{0, 200}, [2]int{20, 40}), pump(), true, false},
		"one more point on a line":            {curve([2]int{0, 100}, [2]int{5, 90}, [2]int{10, 80}, [2]int{20, 40}), pump(), true, true},
		"equal, but shorter":                  {pump()[:2], pump(), true, true},
		"equal, but ends between points":      {curve([2]int{0, 100}, [2]int{10, 80}, [2]int{15, 60}), pump(), true, true},
		"shorter and above":                   {curve([2]int{0, 101}, [2]int{3, 99}), pump(), true, false},
		"shorter, touches where it ends":      {curve([2]int{0, 300}, [2]int{15, 60}), pump(), true, false},
		"shorter, below where it ends":        {curve([2]int{0, 300}, [2]int{15, 59}), pump(), false, false},
		"shorter, below within the other":     {curve([2]int{0, 100}, [2]int{5, 89}), pump(), false, true},
		"longer, below only beyond":           {curve([2]int{0, 101}, [2]int{20, 41}, [2]int{21, 0}), curve([2]int{0, 100}, [2]int{20, 40}), true, false},
		"longer, below only at the last flow": {curve([2]int{0, 101}, [2]int{19, 45}, [2]int{21, 0}), curve([2]int{0, 100}, [2]int{20, 40}), false, false},
		"cross between points":                {curve([2]int{0, 90}, [2]int{20, 50}), straight, false, false},
		"cross between whole flows":           {curve([2]int{0, 10}, [2]int{1, 7}), curve([2]int{0, 9}, [2]int{1, 8}), false, false},
		"cross twice between points":          {curve([2]int{0, 110}, [2]int{10, 65}, [2]int{20, 50}), straight, false, false},
		"cross twice, beneath it":             {curve([2]int{0, 90}, [2]int{10, 75}, [2]int{20, 30}), straight, false, false},
		"below at a point of the upper only":  {straight, curve([2]int{0, 99}, [2]int{10, 71}, [2]int{20, 39}), false, false},
		"below at its own point only":         {curve([2]int{0, 101}, [2]int{10, 69}, [2]int{20, 41}), straight, false, false},
		"below by less than a whole head":     {curve([2]int{0, 100}, [2]int{3, 0}), curve([2]int{0, 100}, [2]int{1, 67}, [2]int{3, 0}), false, true},
		"above by less than a whole head":     {curve([2]int{0, 100}, [2]int{3, 0}), curve([2]int{0, 100}, [2]int{1, 66}, [2]int{3, 0}), true, false},
		"the whole range and its middle":      {wholeRange(), curve([2]int{0, 1000}, [2]int{500, 500}, [2]int{1000, 0}), true, true},
		"the whole range, above at 999 only":  {curve([2]int{0, 1000}, [2]int{999, 2}, [2]int{1000, 0}), wholeRange(), true, false},
		"the whole range, just below at 999":  {curve([2]int{0, 1000}, [2]int{998, 1}, [2]int{1000, 0}), wholeRange(), false, true},
	} {
		if over, ok := impl.IsAbove(k.a, k.b); !ok || over != k.over {
			t.Errorf("%s: IsAbove = %v, %v", name, over, ok)
		}
		if back, ok := impl.IsAbove(k.b, k.a); !ok || back != k.back {
			t.Errorf("%s: the other way round, IsAbove = %v, %v", name, back, ok)
		}
	}
}

// headsAtWholeFlows returns the heads of a curve at all whole flows, from 0 on.
func headsAtWholeFlows(c []impl.CurvePoint) []*big.Rat {
	heads := []*big.Rat{}
	for flow := range lastOf(c).Flow + 1 {
		heads = append(heads, wantedHead(c, wholeNumber(flow)))
	}
	return heads
}

// wantedAbove reports whether none of the first heads is less than the second one at the same
// flow, as far as both go.
func wantedAbove(first []*big.Rat, second []*big.Rat) bool {
	for flow := range min(len(first), len(second)) {
		if first[flow].Cmp(second[flow]) < 0 {
			return false
		}
	}
	return true
}

func TestCurvesAboveFollowTheHeads(t *testing.T) {
	above, below, longer := 0, 0, 0
	for _, all := range [][][]impl.CurvePoint{smallCurves(), someCurves()} {
		heads := [][]*big.Rat{}
		for _, c := range all {
			heads = append(heads, headsAtWholeFlows(c))
		}
		for i, a := range all {
			for j, b := range all {
				if len(all) > 200 && i != j && (i*31+j*17)%13 != 0 {
					continue
				}
				want := wantedAbove(heads[i], heads[j])
				if over, ok := impl.IsAbove(a, b); !ok || over != want {
					t.Fatalf("IsAbove(%v, %v) = %v, %v", a, b, over, ok)
				}
				if want {
					above++
				} else {
					below++
				}
				if len(heads[i]) > len(heads[j]) {
					longer++
				}
			}
		}
	}
	if min(above, below, longer) < 1000 {
		t.Error("too few of some kind:", above, below, longer)
	}
}

// bentCurves returns curves that differ from a line in the head of one point by one.
func bentCurves() [][]impl.CurvePoint {
	list := [][]impl.CurvePoint{}
	for _, flow := range []int{1, 2, 5, 8, 9} {
		for _, by := range []int{-1, 0, 1} {
			list = append(list, curve([2]int{0, 100}, [2]int{flow, 100 - 7*flow + by}, [2]int{10, 30}))
			list = append(list, curve([2]int{0, 100 + by}, [2]int{flow, 100 - 7*flow}, [2]int{10, 30}))
			list = append(list, curve([2]int{0, 100}, [2]int{flow, 100 - 7*flow}, [2]int{10, 30 + by}))
			list = append(list, curve([2]int{0, 100}, [2]int{flow, 100 - 7*flow + by}))
		}
	}
	return list
}

func TestBentCurvesAbove(t *testing.T) {
	list := bentCurves()
	for _, a := range list {
		for _, b := range list {
			want := wantedAbove(headsAtWholeFlows(a), headsAtWholeFlows(b))
			if over, ok := impl.IsAbove(a, b); !isCurve(a) || !ok || over != want {
				t.Fatalf("IsAbove(%v, %v) = %v, %v", a, b, over, ok)
			}
		}
	}
}

// checkNoCurve checks that every function with a curve, a flow, a head, a lift, a slope and a
// head to raise by returns zero values for them.
func checkNoCurve(t *testing.T, c []impl.CurvePoint, value int, lift int, slope int, by int) {
	t.Helper()
	if num, den, ok := impl.HeadAt(c, value); ok || num != 0 || den != 0 {
		t.Errorf("HeadAt(%v, %d) = %d, %d, %v", c, value, num, den, ok)
	}
	if num, den, ok := impl.FlowAt(c, value); ok || num != 0 || den != 0 {
		t.Errorf("FlowAt(%v, %d) = %d, %d, %v", c, value, num, den, ok)
	}
	checkNoWork(t, c, lift, slope)
	if raised, ok := impl.RaiseCurve(c, by); ok || len(raised) != 0 {
		t.Errorf("RaiseCurve(%v, %d) = %v, %v", c, by, raised, ok)
	}
}

// checkNoSum checks that ParallelFlow and SeriesHead return zero values for these arguments.
func checkNoSum(t *testing.T, list [][]impl.CurvePoint, value int) {
	t.Helper()
	if num, den, ok := impl.ParallelFlow(list, value); ok || num != 0 || den != 0 {
		t.Errorf("ParallelFlow(%v, %d) = %d, %d, %v", list, value, num, den, ok)
	}
	if num, den, ok := impl.SeriesHead(list, value); ok || num != 0 || den != 0 {
		t.Errorf("SeriesHead(%v, %d) = %d, %d, %v", list, value, num, den, ok)
	}
}

func TestInvalidCurvesYieldZeroValues(t *testing.T) {
	for name, c := range invalidCurves() {
		for _, value := range []int{0, 1, 5, 10, 20, 40, 41, 50, 90, 100, 1000} {
			for _, slope := range []int{0, 1, 4, 1000} {
				checkNoCurve(t, c, value, value, slope, 0)
			}
			for _, by := range []int{-1000, -value, value, -1, 1, 2, 1000} {
				checkNoCurve(t, c, value, 0, 0, by)
			}
			for place := range 4 {
				list := [][]impl.CurvePoint{wholeRange(), wholeRange(), wholeRange(), wholeRange()}
				list[place] = c
				for number := place + 1; number <= 4; number++ {
					checkNoSum(t, list[:number], value)
				}
				checkNoSum(t, [][]impl.CurvePoint{c, c, c, c}[:place+1], value)
			}
		}
		for _, other := range [][]impl.CurvePoint{pump(), sixPoints(), wholeRange(), c} {
			if above, ok := impl.IsAbove(c, other); ok || above {
				t.Errorf("%s: IsAbove = %v, %v", name, above, ok)
			}
			if above, ok := impl.IsAbove(other, c); ok || above {
				t.Errorf("%s: the other way round, IsAbove = %v, %v", name, above, ok)
			}
		}
	}
}

func TestInvalidCurvesWithInvalidNumbersYieldZeroValues(t *testing.T) {
	for _, c := range invalidCurves() {
		for _, value := range otherCurveValues {
			checkNoCurve(t, c, value, value, value, value)
			checkNoSum(t, [][]impl.CurvePoint{c}, value)
			checkNoSum(t, [][]impl.CurvePoint{pump(), c}, value)
		}
	}
}

func TestTooFewAndTooManyPumpsYieldZeroValues(t *testing.T) {
	for _, c := range [][]impl.CurvePoint{pump(), sixPoints(), wholeRange()} {
		for _, number := range []int{0, 5, 6, 8, 100} {
			list := slices.Repeat([][]impl.CurvePoint{c}, number)
			for _, value := range []int{0, 1, 10, 20, 40, 50, 100, 1000} {
				checkNoSum(t, list, value)
			}
		}
		for _, value := range []int{0, 10, 1000, -1, 1001} {
			checkNoSum(t, nil, value)
			checkNoSum(t, [][]impl.CurvePoint{}, value)
		}
	}
}

func TestOtherNumbersYieldZeroValues(t *testing.T) {
	for _, c := range someCurves() {
		for _, value := range otherCurveValues {
			for number := 1; number <= 4; number++ {
				checkNoSum(t, slices.Repeat([][]impl.CurvePoint{c}, number), value)
			}
			for _, good := range []int{0, 1, 40, c[0].Head, 1000} {
				checkNoWork(t, c, value, good)
				checkNoWork(t, c, good, value)
			}
			for _, other := range otherCurveValues {
				checkNoWork(t, c, value, other)
			}
		}
		for _, by := range otherRaises {
			if raised, ok := impl.RaiseCurve(c, by); ok || len(raised) != 0 {
				t.Errorf("RaiseCurve(%v, %d) = %v, %v", c, by, raised, ok)
			}
		}
	}
}

// pointsBehind returns a curve whose memory goes on behind it, and that whole memory.
func pointsBehind(c []impl.CurvePoint) ([]impl.CurvePoint, []impl.CurvePoint) {
	memory := append(slices.Clone(c), impl.CurvePoint{Flow: 999, Head: 1}, impl.CurvePoint{Flow: 1000}, impl.CurvePoint{Flow: -5, Head: 2000})
	return memory[:len(c)], memory
}

// spoilPoints overwrites all memory of a curve.
func spoilPoints(c []impl.CurvePoint) {
	all := c[:cap(c)]
	for i := range all {
		all[i] = impl.CurvePoint{Flow: -7, Head: -7}
	}
}

// callAllForCurves calls every function for the first curve of a list, with the others where a
// list is asked for, and overwrites all memory of the results.
func callAllForCurves(list [][]impl.CurvePoint) {
	c := list[0]
	impl.IsValidCurve(c)
	for _, value := range []int{-1, 0, 1, 5, 10, 40, 100, 1000, 1001} {
		impl.HeadAt(c, value)
		impl.FlowAt(c, value)
		impl.ParallelFlow(list, value)
		impl.SeriesHead(list, value)
		impl.WorkingPoint(c, value, 1)
		impl.WorkingHead(c, 1, value)
		for _, by := range []int{value, -value} {
			raised, _ := impl.RaiseCurve(c, by)
			spoilPoints(raised)
		}
	}
	impl.IsAbove(c, list[len(list)-1])
	impl.IsAbove(list[len(list)-1], c)
	impl.IsAbove(c, c)
}

func TestCurveFunctionsLeaveTheirArgumentsAlone(t *testing.T) {
	all := someCurves()
	for _, c := range invalidCurves() {
		all = append(all, c)
	}
	for i, c := range all {
		first, wholeFirst := pointsBehind(c)
		second, wholeSecond := pointsBehind(all[(i*37+11)%len(all)])
		lists := append([][]impl.CurvePoint{first, second, first}[:1+i%3], second, nil, first)
		firstBefore, secondBefore := slices.Clone(wholeFirst), slices.Clone(wholeSecond)
		callAllForCurves(lists[:1+i%3])
		callAllForCurves(lists[:2+i%3])
		if !slices.Equal(wholeFirst, firstBefore) || !slices.Equal(wholeSecond, secondBefore) {
			t.Fatalf("an argument is modified: %v to %v, %v to %v", firstBefore, wholeFirst, secondBefore, wholeSecond)
		}
		for place, want := range append([][]impl.CurvePoint{first, second, first}[:1+i%3], second, nil, first) {
			got := lists[place]
			if len(got) != len(want) || cap(got) != cap(want) || (got == nil) != (want == nil) || len(got) > 0 && &got[0] != &want[0] {
				t.Fatalf("the list is modified at %d: %v to %v", place, want, got)
			}
		}
	}
}

func TestPointsBehindACurveAreNotRead(t *testing.T) {
	for _, full := range someCurves() {
		for length := 2; length <= len(full); length++ {
			c, alone := full[:length], slices.Clip(slices.Clone(full[:length]))
			longer, _ := pointsBehind(c)
			for _, part := range [][]impl.CurvePoint{c, longer} {
				for _, value := range []int{0, 1, lastOf(c).Flow, lastOf(c).Flow + 1, lastOf(c).Head, lastOf(c).Head - 1} {
					num, den, ok := impl.HeadAt(part, value)
					if x, y, good := impl.HeadAt(alone, value); x != num || y != den || good != ok {
						t.Fatalf("HeadAt(%v, %d) reads behind its end", c, value)
					}
					num, den, ok = impl.WorkingPoint(part, value, 1)
					if x, y, good := impl.WorkingPoint(alone, value, 1); x != num || y != den || good != ok {
						t.Fatalf("WorkingPoint(%v, %d) reads behind its end", c, value)
					}
				}
				for _, by := range []int{-1, 0, 1} {
					raised, ok := impl.RaiseCurve(part, by)
					if want, good := impl.RaiseCurve(alone, by); good != ok || !slices.Equal(raised, want) {
						t.Fatalf("RaiseCurve(%v, %d) reads behind its end", c, by)
					}
				}
			}
		}
	}
}

func TestRaisedCurvesShareNoMemory(t *testing.T) {
	for _, c := range someCurves() {
		before := slices.Clone(c)
		for _, by := range []int{0, 1, -1} {
			first, found := impl.RaiseCurve(c, by)
			want := slices.Clone(first)
			second, _ := impl.RaiseCurve(c, by)
			spoilPoints(first)
			third, ok := impl.RaiseCurve(c, by)
			if ok != found || !slices.Equal(second, want) || !slices.Equal(third, want) || !slices.Equal(c, before) {
				t.Fatal("shares memory:", want, second, third)
			}
		}
	}
}
