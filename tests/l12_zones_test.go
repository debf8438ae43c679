package tests

import (
	"math"
	"math/bits"
	"math/rand"
	"slices"
	"testing"

	"loop.example/g00853/impl"
)

// otherElevations are numbers that are no elevations.
var otherElevations = []int{-1, 1001, -1000, 1002, 2000, 1 << 32, -1 << 32, math.MinInt, math.MaxInt}

// otherSupplies are numbers that are no levels.
var otherSupplies = []int{-1, 2001, -2000, 2002, 4000, 1 << 32, -1 << 32, 1<<32 + 60, math.MinInt, math.MaxInt}

// otherMeters are numbers by which no places are raised.
var otherMeters = []int{-1001, 1001, -2000, 2000, 1 << 32, -1 << 32, math.MinInt, math.MaxInt}

// ruled is a list of elevations and a rule for the pressures there.
type ruled struct {
	list []int
	rule impl.ZoneRule
}

// zoned is what one level after another, from 0 to 2*MaxElevation, does for places: suited has,
// for every level, a bit for each place that it suits.
type zoned struct {
	ruled
	suited []uint
}

// rule returns a rule.
func rule(least int, most int) impl.ZoneRule { return impl.ZoneRule{Least: least, Most: most} }

// isSuited reports whether the pressure of a place at a level is in the range of a rule.
func isSuited(elevation int, r impl.ZoneRule, level int) bool {
	pressure := level - elevation
	return pressure >= r.Least && pressure <= r.Most
}

// allPlaces returns the bits of all places of a list.
func allPlaces(list []int) uint { return 1<<len(list) - 1 }

// tried returns what every level does for places.
func tried(p ruled) zoned {
	z := zoned{p, make([]uint, 2001)}
	for level := range z.suited {
		for place, elevation := range p.list {
			if isSuited(elevation, p.rule, level) {
				z.suited[level] |= 1 << place
			}
		}
	}
	return z
}

// wantedPlaces returns the indices of the places that a level suits.
func wantedPlaces(z zoned, level int) []int {
	var places []int
	for place := range z.list {
		if z.suited[level]>>place&1 == 1 {
			places = append(places, place)
		}
	}
	return places
}

// wantedSuiting returns all levels that suit all places.
func wantedSuiting(z zoned) []int {
	var levels []int
	for level, suited := range z.suited {
		if suited == allPlaces(z.list) {
			levels = append(levels, level)
		}
	}
	return levels
}

// wantedFewest returns the levels that the document chooses: the greatest one for the lowest
// place that is left, as long as there is one.
func wantedFewest(z zoned) []int {
	var levels []int
	for left := allPlaces(z.list); left != 0; {
		lowest := -1
		for place := range z.list {
			if left>>place&1 == 1 && (lowest < 0 || z.list[place] < z.list[lowest]) {
				lowest = place
			}
		}
		level := 2000
		for z.suited[level]>>lowest&1 == 0 {
			level--
		}
		levels = append(levels, level)
		left &^= z.suited[level]
	}
	return levels
}

// wantedNumber returns the smallest number of levels that suit all places together, whatever
// levels these are: round after round all sets of places that one level more suits too.
func wantedNumber(z zoned) int {
	kinds := slices.Compact(slices.Sorted(slices.Values(z.suited)))
	reached := make([]bool, allPlaces(z.list)+1)
	reached[0] = true
	for number := 0; ; number++ {
		if reached[allPlaces(z.list)] {
			return number
		}
		next := slices.Clone(reached)
		for set := range reached {
			for _, kind := range kinds {
				next[uint(set)|kind] = next[uint(set)|kind] || reached[set]
			}
		}
		reached = next
	}
}

// wantedBest returns the first level that suits most places, and their number.
func wantedBest(z zoned) (int, int) {
	best, most := 0, 0
	for level, suited := range z.suited {
		if number := bits.OnesCount(suited); number > most {
			best, most = level, number
		}
	}
	return best, most
}

// wantedReduction reduces the pressure of a place meter by meter; it fails if the pressure is too
// small.
func wantedReduction(elevation int, r impl.ZoneRule, level int) (int, bool) {
	for meters := 0; level-meters-elevation >= r.Least; meters++ {
		if isSuited(elevation, r, level-meters) {
			return meters, true
		}
	}
	return 0, false
}

// shifted returns a list in which every number is greater by some.
func shifted(list []int, by int) []int {
	result := make([]int, len(list))
	for i := range list {
		result[i] = list[i] + by
	}
	return result
}

// smallPlaces calls a function with all lists of up to three elevations of up to 4, and of those
// from MaxElevation-4 on, with all rules of up to 4 and of 197..200.
func smallPlaces(call func(p ruled)) {
	for count := range 4 {
		volumeLists(count, 4, func(list []int) {
			for least := 1; least <= 4; least++ {
				for most := least; most <= 4; most++ {
					call(ruled{slices.Clone(list), rule(least, most)})
					call(ruled{shifted(list, 996), rule(least+196, most+196)})
				}
			}
		})
	}
}

// drawnRule returns a rule of one of several kinds.
func drawnRule(r *rand.Rand) impl.ZoneRule {
	least := []int{1, 1, 200, 1 + r.Intn(200), 1 + r.Intn(200), 1 + r.Intn(20)}[r.Intn(6)]
	most := []int{least, 200, min(least+r.Intn(8), 200), least + r.Intn(201-least), least + r.Intn(201-least)}[r.Intn(5)]
	return rule(least, most)
}

// drawnPlaces returns places of one of several kinds: apart by about the width of the rule, all
// within about this width, far apart, in a narrow range, or anywhere.
func drawnPlaces(r *rand.Rand) ruled {
	p := ruled{make([]int, []int{1, 2, 12, r.Intn(13), r.Intn(13), 1 + r.Intn(5)}[r.Intn(6)]), drawnRule(r)}
	width, narrow, kind := p.rule.Most-p.rule.Least, []int{1, 3, 20, 300}[r.Intn(4)], r.Intn(5)
	base := []int{0, r.Intn(300), r.Intn(1001), 1000}[r.Intn(4)]
	for place := range p.list {
		switch kind {
		case 0:
			p.list[place] = base + place/2*(width+r.Intn(3)-r.Intn(2))
		case 1:
			p.list[place] = base + []int{0, width, width, r.Intn(width + 1), r.Intn(width + 2)}[r.Intn(5)]
		case 2:
			p.list[place] = place * 1000 / 11
		case 3:
			p.list[place] = base + r.Intn(narrow) - narrow/2
		case 4:
			p.list[place] = r.Intn(1001)
		}
		p.list[place] = min(max(p.list[place], 0), 1000)
	}
	if r.Intn(3) > 0 {
		r.Shuffle(len(p.list), func(i, j int) { p.list[i], p.list[j] = p.list[j], p.list[i] })
	}
	return p
}

// knownPlaces returns places of which each kind that the document names occurs.
func knownPlaces() []ruled {
	stairs := []int{0, 90, 180, 270, 360, 450, 540, 630, 720, 810, 900, 1000}
	mixed := []int{450, 0, 1000, 90, 900, 180, 810, 270, 720, 360, 630, 540}
	return []ruled{
		{nil, rule(20, 60)}, {[]int{}, rule(1, 1)}, {[]int{0}, rule(1, 1)}, {[]int{0}, rule(200, 200)}, {[]int{1000}, rule(1, 200)}, {[]int{1000}, rule(200, 200)},
		{[]int{0, 40, 90}, rule(20, 60)}, {[]int{90, 0, 40}, rule(20, 60)}, {[]int{0, 40}, rule(20, 60)}, {[]int{0, 41}, rule(20, 60)}, {[]int{41, 0}, rule(20, 60)}, {[]int{0, 39}, rule(20, 60)},
		{[]int{7, 7, 7}, rule(5, 5)}, {[]int{7, 8, 7}, rule(5, 5)}, {[]int{0, 1000}, rule(1, 200)}, {[]int{0, 199}, rule(1, 200)}, {[]int{0, 200}, rule(1, 200)},
		{[]int{1000, 801}, rule(1, 200)}, {[]int{1000, 800}, rule(1, 200)},
		{stairs, rule(20, 60)}, {mixed, rule(20, 60)}, {stairs, rule(1, 200)}, {mixed, rule(1, 200)}, {stairs, rule(1, 91)}, {stairs, rule(7, 7)},
		{slices.Repeat([]int{1000}, 12), rule(1, 1)}, {slices.Repeat([]int{0}, 12), rule(1, 200)},
	}
}

// somePlaces returns places of all kinds: known ones, small ones and drawn ones.
func somePlaces() []ruled {
	list := knownPlaces()
	smallPlaces(func(p ruled) { list = append(list, p) })
	r := rand.New(rand.NewSource(12))
	for range 6000 {
		list = append(list, drawnPlaces(r))
	}
	return list
}

// bordersOf returns the levels at the ends of what suits each place, and beyond, and some others.
func bordersOf(p ruled) []int {
	levels := []int{0, 1, 500, 1999, 2000}
	for _, elevation := range p.list {
		for _, level := range []int{elevation, elevation + p.rule.Least, elevation + p.rule.Most} {
			levels = append(levels, max(level-1, 0), level, level+1)
		}
	}
	return levels
}

func TestTheLimitsOfZones(t *testing.T) {
	if impl.MaxPlaces != 12 || impl.MaxElevation != 1000 {
		t.Error("the limits are", impl.MaxPlaces, impl.MaxElevation)
	}
}

// invalidRules returns rules that are not valid.
func invalidRules() []impl.ZoneRule {
	return []impl.ZoneRule{
		{}, rule(0, 5), rule(0, 200), rule(1, 201), rule(1, 0), rule(0, 0), rule(200, 201), rule(201, 201), rule(201, 200), rule(60, 20), rule(21, 20), rule(2, 1), rule(200, 1),
		rule(200, 199), rule(-1, 5), rule(-5, -1), rule(-1, -5), rule(5, -1),
		rule(math.MinInt, math.MaxInt), rule(math.MaxInt, math.MinInt), rule(math.MinInt, 60), rule(20, math.MaxInt), rule(20, math.MinInt), rule(math.MaxInt, 60),
		rule(math.MaxInt, math.MaxInt), rule(math.MinInt, math.MinInt), rule(1<<32+20, 1<<32+60), rule(20, 1<<32+60),
	}
}

func TestValidRules(t *testing.T) {
	for _, r := range []impl.ZoneRule{rule(1, 1), rule(1, 2), rule(1, 199), rule(1, 200), rule(2, 200), rule(199, 200), rule(200, 200), rule(20, 60), rule(60, 60)} {
		if !impl.IsValidRule(r) {
			t.Error("not valid:", r)
		}
	}
	for _, r := range invalidRules() {
		if impl.IsValidRule(r) {
			t.Error("valid:", r)
		}
	}
	valid := 0
	for least := -3; least <= 203; least++ {
		for most := -3; most <= 203; most++ {
			want := least >= 1 && most <= 200 && most >= least
			if got := impl.IsValidRule(rule(least, most)); got != want {
				t.Fatalf("IsValidRule(%v) = %v", rule(least, most), got)
			}
			if want {
				valid++
			}
		}
	}
	if valid != 200*201/2 {
		t.Error("valid rules:", valid)
	}
}

func TestKnownSuitedPlaces(t *testing.T) {
	hillside := []int{0, 40, 90}
	for _, k := range []struct {
		list  []int
		rule  impl.ZoneRule
		level int
		want  []int
	}{
		{hillside, rule(20, 60), 60, []int{0, 1}}, {hillside, rule(20, 60), 150, []int{2}}, {hillside, rule(20, 60), 110, []int{2}}, {hillside, rule(20, 60), 100, []int{1}},
		{hillside, rule(20, 60), 2000, nil},
		// The pressure is just Least or just Most, or beyond by one.
		{[]int{40}, rule(20, 60), 59, nil}, {[]int{40}, rule(20, 60), 60, []int{0}}, {[]int{40}, rule(20, 60), 61, []int{0}}, {[]int{40}, rule(20, 60), 99, []int{0}},
		{[]int{40}, rule(20, 60), 100, []int{0}}, {[]int{40}, rule(20, 60), 101, nil},
		{[]int{40}, rule(20, 20), 59, nil}, {[]int{40}, rule(20, 20), 60, []int{0}}, {[]int{40}, rule(20, 20), 61, nil},
		// Least 1 and Most 200: without pressure or with a negative one no place is suited.
		{[]int{0}, rule(1, 200), 0, nil}, {[]int{0}, rule(1, 200), 1, []int{0}}, {[]int{0}, rule(1, 200), 200, []int{0}}, {[]int{0}, rule(1, 200), 201, nil},
		{[]int{1000}, rule(1, 200), 1000, nil}, {[]int{1000}, rule(1, 200), 1001, []int{0}},
		{[]int{1000}, rule(1, 200), 1200, []int{0}}, {[]int{1000}, rule(1, 200), 1201, nil}, {[]int{1000}, rule(1, 200), 0, nil}, {[]int{60}, rule(1, 200), 40, nil},
		{[]int{1000}, rule(200, 200), 1200, []int{0}}, {[]int{1000}, rule(1, 200), 2000, nil},
		// Places of any order, equal ones and none.
		{[]int{90, 0, 40, 0}, rule(20, 60), 60, []int{1, 2, 3}}, {[]int{41, 40, 0, 1}, rule(20, 60), 61, []int{0, 1, 3}}, {[]int{7, 7, 7}, rule(5, 5), 12, []int{0, 1, 2}},
		{nil, rule(20, 60), 60, nil}, {[]int{}, rule(1, 200), 0, nil}, {nil, rule(1, 200), 2000, nil},
		{[]int{1000, 0, 999, 1, 998, 2, 997, 3, 996, 4, 995, 5}, rule(1, 200), 200, []int{1, 3, 5, 7, 9, 11}},
		{[]int{1000, 0, 999, 1, 998, 2, 997, 3, 996, 4, 995, 5}, rule(3, 200), 1000, []int{6, 8, 10}},
	} {
		if got, ok := impl.SuitedPlaces(k.list, k.rule, k.level); !ok || !slices.Equal(got, k.want) {
			t.Errorf("SuitedPlaces(%v, %v, %d) = %v, %v, want %v", k.list, k.rule, k.level, got, ok, k.want)
		}
	}
}

// checkSuited checks which places a level suits, from which also their pressures follow.
func checkSuited(t *testing.T, z zoned, level int) {
	t.Helper()
	want := wantedPlaces(z, level)
	got, ok := impl.SuitedPlaces(z.list, z.rule, level)
	if !ok || !slices.Equal(got, want) {
		t.Fatalf("SuitedPlaces(%v, %d) = %v, %v, want %v", z.ruled, level, got, ok, want)
	}
	pressures, ok := impl.PressuresAt(z.list, level)
	if !ok || len(pressures) != len(z.list) {
		t.Fatalf("PressuresAt(%v, %d) = %v, %v", z.list, level, pressures, ok)
	}
	for place, elevation := range z.list {
		// What is above sea level at a place is its elevation and its pressure.
		if pressures[place]+elevation != level {
			t.Fatalf("PressuresAt(%v, %d) = %v", z.list, level, pressures)
		}
		meters, ok := impl.ReducerFor(elevation, z.rule, level)
		if suited := slices.Contains(got, place); suited != (ok && meters == 0) {
			t.Fatalf("SuitedPlaces(%v, %d) = %v, but ReducerFor(%d) = %d, %v", z.ruled, level, got, elevation, meters, ok)
		}
	}
}

func TestSuitedPlacesAreThoseWithPressuresInTheRange(t *testing.T) {
	none, some, all := 0, 0, 0
	for _, p := range somePlaces() {
		z := tried(p)
		for _, level := range bordersOf(p) {
			checkSuited(t, z, level)
			switch bits.OnesCount(z.suited[level]) {
			case 0:
				none++
			case len(p.list):
				all++
			default:
				some++
			}
		}
	}
	if min(none, some, all) < 1000 {
		t.Error("too few of some kind:", none, some, all)
	}
}

func TestSuitedPlacesAtEveryLevel(t *testing.T) {
	for _, p := range knownPlaces() {
		z := tried(p)
		for level := range 2001 {
			checkSuited(t, z, level)
		}
	}
}

func TestKnownSuitingLevels(t *testing.T) {
	for _, k := range []struct {
		p         ruled
		low, high int
		ok        bool
	}{
		{ruled{[]int{0, 40}, rule(20, 60)}, 60, 60, true}, {ruled{[]int{40, 0}, rule(20, 60)}, 60, 60, true}, {ruled{[]int{0, 39}, rule(20, 60)}, 59, 60, true},
		{ruled{[]int{0, 41}, rule(20, 60)}, 0, 0, false}, {ruled{[]int{0, 40, 90}, rule(20, 60)}, 0, 0, false},
		{ruled{[]int{30}, rule(20, 60)}, 50, 90, true}, {ruled{[]int{30, 30, 30}, rule(20, 60)}, 50, 90, true}, {ruled{[]int{35, 30, 45, 40}, rule(20, 60)}, 65, 90, true},
		{ruled{[]int{30, 31}, rule(20, 20)}, 0, 0, false}, {ruled{[]int{30, 30}, rule(20, 20)}, 50, 50, true},
		{ruled{[]int{0}, rule(1, 1)}, 1, 1, true}, {ruled{[]int{0}, rule(1, 200)}, 1, 200, true}, {ruled{[]int{0, 199}, rule(1, 200)}, 200, 200, true},
		{ruled{[]int{0, 198}, rule(1, 200)}, 199, 200, true}, {ruled{[]int{0, 200}, rule(1, 200)}, 0, 0, false}, {ruled{[]int{0, 1000}, rule(1, 200)}, 0, 0, false},
		{ruled{[]int{1000}, rule(200, 200)}, 1200, 1200, true}, {ruled{[]int{1000}, rule(1, 200)}, 1001, 1200, true}, {ruled{[]int{1000, 801}, rule(1, 200)}, 1001, 1001, true},
		{ruled{[]int{1000, 800}, rule(1, 200)}, 0, 0, false}, {ruled{slices.Repeat([]int{1000}, 12), rule(1, 200)}, 1001, 1200, true},
		{ruled{[]int{5, 9, 1, 7, 3, 12, 0, 2, 11, 4, 10, 6}, rule(3, 15)}, 15, 15, true}, {ruled{[]int{5, 9, 1, 7, 3, 13, 0, 2, 11, 4, 10, 6}, rule(3, 15)}, 0, 0, false},
		{ruled{nil, rule(20, 60)}, 0, 0, false}, {ruled{[]int{}, rule(1, 200)}, 0, 0, false},
	} {
		if low, high, ok := impl.SuitingLevels(k.p.list, k.p.rule); ok != k.ok || low != k.low || high != k.high {
			t.Errorf("SuitingLevels(%v) = %d, %d, %v, want %d, %d, %v", k.p, low, high, ok, k.low, k.high, k.ok)
		}
	}
}

func TestSuitingLevelsAreTheFirstAndTheLastThatSuitAll(t *testing.T) {
	empty, none, single, several := 0, 0, 0, 0
	for _, p := range somePlaces() {
		want := wantedSuiting(tried(p))
		low, high, ok := impl.SuitingLevels(p.list, p.rule)
		if len(p.list) == 0 || len(want) == 0 {
			if ok || low != 0 || high != 0 {
				t.Fatalf("SuitingLevels(%v) = %d, %d, %v, want none", p, low, high, ok)
			}
			if len(p.list) == 0 {
				empty++
			} else {
				none++
			}
			continue
		}
		if !ok || low != want[0] || high != last(want) {
			t.Fatalf("SuitingLevels(%v) = %d, %d, %v, want %d, %d", p, low, high, ok, want[0], last(want))
		}
		// Every level between the two suits all places too.
		if len(want) != high-low+1 {
			t.Fatalf("SuitingLevels(%v) = %d, %d, but only %v suit all", p, low, high, want)
		}
		if low == high {
			single++
		} else {
			several++
		}
	}
	if min(empty, none, single, several) < 100 {
		t.Error("too few of some kind:", empty, none, single, several)
	}
}

func TestKnownFewestLevelsAndZones(t *testing.T) {
	stairs := []int{0, 90, 180, 270, 360, 450, 540, 630, 720, 810, 900, 1000}
	for _, k := range []struct {
		p      ruled
		levels []int
		zones  []int
	}{
		{ruled{[]int{0, 40, 90}, rule(20, 60)}, []int{60, 150}, []int{0, 0, 1}}, {ruled{[]int{90, 40, 0}, rule(20, 60)}, []int{60, 150}, []int{1, 0, 0}},
		{ruled{[]int{40, 90, 0}, rule(20, 60)}, []int{60, 150}, []int{0, 1, 0}},
		// One level is enough, just enough, and not enough by one.
		{ruled{[]int{0, 39}, rule(20, 60)}, []int{60}, []int{0, 0}}, {ruled{[]int{0, 40}, rule(20, 60)}, []int{60}, []int{0, 0}},
		{ruled{[]int{0, 41}, rule(20, 60)}, []int{60, 101}, []int{0, 1}}, {ruled{[]int{41, 0}, rule(20, 60)}, []int{60, 101}, []int{1, 0}},
		{ruled{[]int{30}, rule(20, 60)}, []int{90}, []int{0}}, {ruled{[]int{0}, rule(1, 1)}, []int{1}, []int{0}}, {ruled{[]int{1000}, rule(200, 200)}, []int{1200}, []int{0}},
		{ruled{[]int{7, 7, 7}, rule(5, 5)}, []int{12}, []int{0, 0, 0}}, {ruled{nil, rule(20, 60)}, nil, nil}, {ruled{[]int{}, rule(1, 200)}, nil, nil},
		// Which places are suited depends on the lowest one that is left, not on the lowest one of all.
		{ruled{[]int{0, 41, 81, 82}, rule(20, 60)}, []int{60, 101, 142}, []int{0, 1, 1, 2}}, {ruled{[]int{82, 0, 41, 81}, rule(20, 60)}, []int{60, 101, 142}, []int{2, 0, 1, 1}},
		{ruled{[]int{10, 50, 51, 91, 92}, rule(20, 60)}, []int{70, 111, 152}, []int{0, 0, 1, 1, 2}},
		{ruled{[]int{3, 1, 2, 1, 3, 2}, rule(5, 5)}, []int{6, 7, 8}, []int{2, 0, 1, 0, 2, 1}}, {ruled{[]int{3, 1, 2, 1, 3, 2}, rule(5, 6)}, []int{7, 9}, []int{1, 0, 0, 0, 1, 0}},
		{ruled{[]int{0, 1000}, rule(1, 200)}, []int{200, 1200}, []int{0, 1}},
		// As many levels as places, and fewer with a wider rule.
		{ruled{stairs, rule(20, 60)}, []int{60, 150, 240, 330, 420, 510, 600, 690, 780, 870, 960, 1060}, []int{0, 1, 2, 3, 4, 5, 6, 7, 8, 9, 10, 11}},
		{ruled{stairs, rule(20, 110)}, []int{110, 290, 470, 650, 830, 1010, 1110}, []int{0, 0, 1, 1, 2, 2, 3, 3, 4, 4, 5, 6}},
		{ruled{stairs, rule(1, 200)}, []int{200, 470, 740, 1010}, []int{0, 0, 0, 1, 1, 1, 2, 2, 2, 3, 3, 3}},
		{ruled{slices.Repeat([]int{1000}, 12), rule(1, 200)}, []int{1200}, make([]int, 12)},
		{ruled{stairs, rule(200, 200)}, shifted(stairs, 200), []int{0, 1, 2, 3, 4, 5, 6, 7, 8, 9, 10, 11}},
	} {
		if got, ok := impl.FewestLevels(k.p.list, k.p.rule); !ok || !slices.Equal(got, k.levels) {
			t.Errorf("FewestLevels(%v) = %v, %v, want %v", k.p, got, ok, k.levels)
		}
		if got, ok := impl.ZoneOf(k.p.list, k.p.rule); !ok || !slices.Equal(got, k.zones) {
			t.Errorf("ZoneOf(%v) = %v, %v, want %v", k.p, got, ok, k.zones)
		}
	}
}

func TestNoFewerLevelsSuitAllPlaces(t *testing.T) {
	var counts [13]int
	for _, p := range somePlaces() {
		z := tried(p)
		got, ok := impl.FewestLevels(p.list, p.rule)
		if want := wantedFewest(z); !ok || !slices.Equal(got, want) {
			t.Fatalf("FewestLevels(%v) = %v, %v, want %v", p, got, ok, want)
		}
		if want := wantedNumber(z); len(got) != want {
			t.Fatalf("FewestLevels(%v) = %v, but %d levels are enough", p, got, want)
		}
		for i := range got {
			if got[i] < 0 || got[i] > 2000 || i > 0 && got[i] <= got[i-1] {
				t.Fatalf("FewestLevels(%v) = %v is not ascending in the range of levels", p, got)
			}
		}
		counts[len(got)]++
	}
	if slices.Min(counts[:]) < 20 {
		t.Error("too few with some number of levels:", counts)
	}
}

func TestEveryPlaceIsSuitedByTheLevelOfItsZone(t *testing.T) {
	first, later := 0, 0
	for _, p := range somePlaces() {
		levels, _ := impl.FewestLevels(p.list, p.rule)
		zones, ok := impl.ZoneOf(p.list, p.rule)
		if !ok || len(zones) != len(p.list) {
			t.Fatalf("ZoneOf(%v) = %v, %v", p, zones, ok)
		}
		for place, zone := range zones {
			if zone < 0 || zone >= len(levels) {
				t.Fatalf("ZoneOf(%v) = %v, but the levels are %v", p, zones, levels)
			}
			if suited, _ := impl.SuitedPlaces(p.list, p.rule, levels[zone]); !slices.Contains(suited, place) {
				t.Fatalf("the place %d of %v is in the zone %d of %v, of which the level suits %v", place, p, zone, levels, suited)
			}
			// No other level suits the place, so that the first one is the only one: each level is
			// the greatest one for a place that is too high for the level before it.
			for other, level := range levels {
				if other != zone && isSuited(p.list[place], p.rule, level) {
					t.Fatalf("the place %d of %v is in the zone %d of %v, but suited in %d too", place, p, zone, levels, other)
				}
			}
			if zone == 0 {
				first++
			} else {
				later++
			}
		}
	}
	if min(first, later) < 1000 {
		t.Error("too few of some kind:", first, later)
	}
}

func TestOneLevelIsEnoughIfSomeLevelSuitsAll(t *testing.T) {
	one, more := 0, 0
	for _, p := range somePlaces() {
		levels, ok := impl.FewestLevels(p.list, p.rule)
		low, high, suits := impl.SuitingLevels(p.list, p.rule)
		if !ok || suits != (len(levels) == 1) {
			t.Fatalf("FewestLevels(%v) = %v, %v, but SuitingLevels = %d, %d, %v", p, levels, ok, low, high, suits)
		}
		if !suits {
			more++
			continue
		}
		one++
		// The one level is the greatest that suits all, and the smallest is the best one.
		best, number, _ := impl.BestLevel(p.list, p.rule)
		if levels[0] != high || best != low || number != len(p.list) {
			t.Fatalf("SuitingLevels(%v) = %d, %d, but FewestLevels = %v and BestLevel = %d, %d", p, low, high, levels, best, number)
		}
	}
	if min(one, more) < 1000 {
		t.Error("too few of some kind:", one, more)
	}
}

func TestZonesDoNotDependOnTheOrder(t *testing.T) {
	r := rand.New(rand.NewSource(121))
	for _, p := range somePlaces() {
		levels, _ := impl.FewestLevels(p.list, p.rule)
		zones, _ := impl.ZoneOf(p.list, p.rule)
		order := r.Perm(len(p.list))
		mixed, moved := make([]int, len(p.list)), make([]int, len(p.list))
		for to, from := range order {
			mixed[to], moved[to] = p.list[from], zones[from]
		}
		if got, ok := impl.FewestLevels(mixed, p.rule); !ok || !slices.Equal(got, levels) {
			t.Fatalf("FewestLevels(%v) = %v, but of %v %v", p, levels, mixed, got)
		}
		if got, ok := impl.ZoneOf(mixed, p.rule); !ok || !slices.Equal(got, moved) {
			t.Fatalf("ZoneOf(%v) = %v, but of %v %v", p, zones, mixed, got)
		}
	}
}

func TestKnownPressuresOfPlaces(t *testing.T) {
	for _, k := range []struct {
		list  []int
		level int
		want  []int
	}{
		{[]int{0, 40, 90}, 60, []int{60, 20, -30}}, {[]int{90, 40, 0}, 60, []int{-30, 20, 60}}, {[]int{60, 60}, 60, []int{0, 0}}, {[]int{59, 61}, 60, []int{1, -1}}, {nil, 60, nil},
		{[]int{}, 0, nil}, {nil, 2000, nil},
		{[]int{0}, 0, []int{0}}, {[]int{1000}, 0, []int{-1000}}, {[]int{0}, 2000, []int{2000}}, {[]int{1000}, 2000, []int{1000}}, {[]int{1000, 999, 0, 1}, 1000, []int{0, 1, 1000, 999}},
		{[]int{5, 9, 1, 7, 3, 12, 0, 2, 11, 4, 10, 6}, 6, []int{1, -3, 5, -1, 3, -6, 6, 4, -5, 2, -4, 0}}, {slices.Repeat([]int{1000}, 12), 1, slices.Repeat([]int{-999}, 12)},
	} {
		if got, ok := impl.PressuresAt(k.list, k.level); !ok || !slices.Equal(got, k.want) {
			t.Errorf("PressuresAt(%v, %d) = %v, %v, want %v", k.list, k.level, got, ok, k.want)
		}
	}
}

func TestKnownBestLevels(t *testing.T) {
	for _, k := range []struct {
		p           ruled
		level, most int
	}{
		{ruled{[]int{0, 40, 90}, rule(20, 60)}, 60, 2}, {ruled{[]int{90, 0, 40}, rule(20, 60)}, 60, 2}, {ruled{[]int{0, 41, 90}, rule(20, 60)}, 20, 1},
		{ruled{[]int{90, 41, 0}, rule(20, 60)}, 20, 1}, {ruled{[]int{0, 50, 90}, rule(20, 60)}, 110, 2}, {ruled{[]int{90, 50, 0}, rule(20, 60)}, 110, 2},
		// Without places every level suits equally many, and the smallest one is 0.
		{ruled{nil, rule(20, 60)}, 0, 0}, {ruled{[]int{}, rule(1, 200)}, 0, 0}, {ruled{nil, rule(200, 200)}, 0, 0},
		{ruled{[]int{0}, rule(1, 200)}, 1, 1}, {ruled{[]int{0}, rule(200, 200)}, 200, 1}, {ruled{[]int{1000}, rule(1, 200)}, 1001, 1}, {ruled{[]int{1000}, rule(200, 200)}, 1200, 1},
		{ruled{[]int{30}, rule(20, 60)}, 50, 1}, {ruled{[]int{30, 30, 30}, rule(20, 60)}, 50, 3},
		// Ties, of which the smallest level counts, in any order.
		{ruled{[]int{0, 1000}, rule(1, 200)}, 1, 1}, {ruled{[]int{1000, 0}, rule(1, 200)}, 1, 1}, {ruled{[]int{500, 0, 510, 10}, rule(20, 60)}, 30, 2},
		{ruled{[]int{500, 510, 0, 10}, rule(20, 60)}, 30, 2}, {ruled{[]int{500, 505, 510, 0, 10}, rule(20, 60)}, 530, 3}, {ruled{[]int{3, 1, 2, 1, 3, 2}, rule(5, 5)}, 6, 2},
		{ruled{[]int{3, 1, 2, 1, 3, 2}, rule(5, 6)}, 7, 4}, {ruled{[]int{3, 1, 2, 3, 2, 3}, rule(5, 6)}, 8, 5}, {ruled{[]int{3, 1, 2, 1, 3, 2}, rule(5, 7)}, 8, 6},
		{ruled{[]int{0, 90, 180, 270, 360, 450, 540, 630, 720, 810, 900, 1000}, rule(1, 200)}, 181, 3},
		{ruled{[]int{0, 90, 180, 270, 360, 450, 540, 630, 720, 810, 900, 1000}, rule(20, 60)}, 20, 1}, {ruled{slices.Repeat([]int{1000}, 12), rule(7, 9)}, 1007, 12},
	} {
		if level, most, ok := impl.BestLevel(k.p.list, k.p.rule); !ok || level != k.level || most != k.most {
			t.Errorf("BestLevel(%v) = %d, %d, %v, want %d, %d", k.p, level, most, ok, k.level, k.most)
		}
	}
}

func TestBestLevelsAreTheFirstThatSuitMost(t *testing.T) {
	all, some, ties := 0, 0, 0
	for _, p := range somePlaces() {
		z := tried(p)
		want, number := wantedBest(z)
		got, most, ok := impl.BestLevel(p.list, p.rule)
		if !ok || got != want || most != number {
			t.Fatalf("BestLevel(%v) = %d, %d, %v, want %d, %d", p, got, most, ok, want, number)
		}
		if suited, _ := impl.SuitedPlaces(p.list, p.rule, got); len(suited) != most {
			t.Fatalf("BestLevel(%v) = %d, %d, but it suits %v", p, got, most, suited)
		}
		if most == len(p.list) {
			all++
			continue
		}
		some++
		// On a tie the same number occurs again, further up behind a smaller one.
		after := z.suited[got:]
		fewer := slices.IndexFunc(after, func(suited uint) bool { return bits.OnesCount(suited) < most })
		if slices.ContainsFunc(after[fewer:], func(suited uint) bool { return bits.OnesCount(suited) == most }) {
			ties++
		}
	}
	if min(all, some, ties) < 500 {
		t.Error("too few of some kind:", all, some, ties)
	}
}

func TestKnownReductions(t *testing.T) {
	for _, k := range []struct {
		elevation int
		rule      impl.ZoneRule
		level     int
		want      int
		ok        bool
	}{
		{0, rule(20, 60), 100, 40, true}, {90, rule(20, 60), 100, 0, false}, {40, rule(20, 60), 100, 0, true}, {39, rule(20, 60), 100, 1, true}, {38, rule(20, 60), 100, 2, true},
		{41, rule(20, 60), 100, 0, true}, {80, rule(20, 60), 100, 0, true}, {81, rule(20, 60), 100, 0, false}, {79, rule(20, 60), 100, 0, true},
		{100, rule(20, 60), 100, 0, false}, {101, rule(20, 60), 100, 0, false}, {1000, rule(20, 60), 0, 0, false}, {0, rule(20, 60), 0, 0, false}, {0, rule(1, 200), 0, 0, false},
		{0, rule(1, 200), 1, 0, true}, {0, rule(1, 200), 200, 0, true}, {0, rule(1, 200), 201, 1, true}, {0, rule(1, 200), 2000, 1800, true},
		{0, rule(1, 1), 2000, 1999, true}, {0, rule(1, 1), 1, 0, true}, {0, rule(1, 1), 2, 1, true}, {0, rule(1, 1), 0, 0, false}, {0, rule(200, 200), 199, 0, false},
		{0, rule(200, 200), 200, 0, true}, {0, rule(200, 200), 201, 1, true},
		{1000, rule(1, 200), 2000, 800, true}, {1000, rule(1, 200), 1000, 0, false}, {1000, rule(1, 200), 1001, 0, true}, {1000, rule(1, 200), 1200, 0, true},
		{1000, rule(1, 200), 1201, 1, true}, {1000, rule(200, 200), 1199, 0, false}, {1000, rule(200, 200), 1200, 0, true}, {1000, rule(1, 1), 2000, 999, true},
	} {
		if got, ok := impl.ReducerFor(k.elevation, k.rule, k.level); ok != k.ok || got != k.want {
			t.Errorf("ReducerFor(%d, %v, %d) = %d, %v, want %d, %v", k.elevation, k.rule, k.level, got, ok, k.want, k.ok)
		}
	}
}

func TestReductionsAreTheSmallestThatSuit(t *testing.T) {
	small, none, one, more := 0, 0, 0, 0
	for _, r := range []impl.ZoneRule{rule(1, 1), rule(1, 2), rule(1, 200), rule(200, 200), rule(199, 200), rule(20, 60), rule(60, 60), rule(20, 199)} {
		for _, elevation := range []int{0, 1, 2, 499, 500, 999, 1000} {
			for level := range 2001 {
				want, suits := wantedReduction(elevation, r, level)
				if got, ok := impl.ReducerFor(elevation, r, level); ok != suits || got != want {
					t.Fatalf("ReducerFor(%d, %v, %d) = %d, %v, want %d, %v", elevation, r, level, got, ok, want, suits)
				}
				switch {
				case !suits:
					small++
				case want == 0:
					none++
				case want == 1:
					one++
				default:
					more++
				}
			}
		}
	}
	if min(small, none, one, more) < 50 {
		t.Error("too few of some kind:", small, none, one, more)
	}
}

func TestKnownRaisedPlaces(t *testing.T) {
	for _, k := range []struct {
		list   []int
		meters int
		want   []int
		ok     bool
	}{
		{[]int{0, 40, 90}, 10, []int{10, 50, 100}, true}, {[]int{90, 0, 40}, 10, []int{100, 10, 50}, true}, {[]int{0, 40, 90}, 0, []int{0, 40, 90}, true},
		{[]int{10, 50, 100}, -10, []int{0, 40, 90}, true}, {[]int{10, 50, 100}, -11, nil, false}, {[]int{10, 9, 100}, -10, nil, false}, {[]int{100, 10, 9}, -10, nil, false},
		{[]int{9, 100, 10}, -10, nil, false},
		{[]int{0, 40, 90}, 910, []int{910, 950, 1000}, true}, {[]int{0, 40, 90}, 911, nil, false}, {[]int{90, 91, 0}, 910, nil, false}, {[]int{0, 90, 91}, 910, nil, false},
		{[]int{91, 0, 90}, 910, nil, false}, {[]int{0}, 1000, []int{1000}, true}, {[]int{0, 0}, 1000, []int{1000, 1000}, true}, {[]int{0, 1}, 1000, nil, false},
		{[]int{1000}, -1000, []int{0}, true}, {[]int{1000, 999}, -1000, nil, false}, {[]int{0}, -1, nil, false}, {[]int{1000}, 1, nil, false}, {[]int{0, 1000}, 0, []int{0, 1000}, true},
		{[]int{0}, -1000, nil, false}, {[]int{1000}, 1000, nil, false}, {[]int{500}, 500, []int{1000}, true}, {[]int{500}, -500, []int{0}, true}, {[]int{500}, 501, nil, false},
		{[]int{500}, -501, nil, false},
		{nil, 0, nil, true}, {[]int{}, 1000, nil, true}, {nil, -1000, nil, true}, {nil, 1001, nil, false}, {nil, -1001, nil, false}, {[]int{0}, 1001, nil, false},
		{[]int{1000}, -1001, nil, false}, {slices.Repeat([]int{3}, 12), 4, slices.Repeat([]int{7}, 12), true},
		{[]int{5, 9, 1, 7, 3, 12, 0, 2, 11, 4, 10, 6}, 988, []int{993, 997, 989, 995, 991, 1000, 988, 990, 999, 992, 998, 994}, true},
	} {
		if got, ok := impl.RaisePlaces(k.list, k.meters); ok != k.ok || !slices.Equal(got, k.want) {
			t.Errorf("RaisePlaces(%v, %d) = %v, %v, want %v, %v", k.list, k.meters, got, ok, k.want, k.ok)
		}
	}
}

func TestRaisedPlacesStayInTheRange(t *testing.T) {
	raised, left := 0, 0
	for _, p := range somePlaces() {
		meters := []int{-1000, -500, -1, 0, 1, 500, 1000}
		for _, elevation := range p.list {
			meters = append(meters, -elevation, max(-elevation-1, -1000), 1000-elevation, min(1001-elevation, 1000))
		}
		for _, by := range meters {
			want := shifted(p.list, by)
			if slices.ContainsFunc(want, func(elevation int) bool { return elevation < 0 || elevation > 1000 }) {
				want = nil
				left++
			} else {
				raised++
			}
			got, ok := impl.RaisePlaces(p.list, by)
			if ok != (len(want) == len(p.list)) || !slices.Equal(got, want) {
				t.Fatalf("RaisePlaces(%v, %d) = %v, %v, want %v", p.list, by, got, ok, want)
			}
			if !ok {
				continue
			}
			if back, ok := impl.RaisePlaces(got, -by); !ok || !slices.Equal(back, p.list) {
				t.Fatalf("RaisePlaces(%v, %d) = %v, but back %v, %v", p.list, by, got, back, ok)
			}
			// The zones stay as they are, with levels raised as well.
			levels, _ := impl.FewestLevels(p.list, p.rule)
			if higher, _ := impl.FewestLevels(got, p.rule); !slices.Equal(higher, shifted(levels, by)) {
				t.Fatalf("FewestLevels(%v) = %v, but raised by %d %v", p, levels, by, higher)
			}
		}
	}
	if min(raised, left) < 1000 {
		t.Error("too few of some kind:", raised, left)
	}
}

// checkNoRuledPlaces checks that every function of places and a rule returns zero values.
func checkNoRuledPlaces(t *testing.T, p ruled) {
	t.Helper()
	for _, level := range []int{0, 1, 60, 1200, 2000, -1, 2001} {
		checkNotSuited(t, p, level)
	}
	if low, high, ok := impl.SuitingLevels(p.list, p.rule); ok || low != 0 || high != 0 {
		t.Errorf("SuitingLevels(%v) = %d, %d, %v", p, low, high, ok)
	}
	if got, ok := impl.FewestLevels(p.list, p.rule); ok || len(got) != 0 {
		t.Errorf("FewestLevels(%v) = %v, %v", p, got, ok)
	}
	if got, ok := impl.ZoneOf(p.list, p.rule); ok || len(got) != 0 {
		t.Errorf("ZoneOf(%v) = %v, %v", p, got, ok)
	}
	if level, most, ok := impl.BestLevel(p.list, p.rule); ok || level != 0 || most != 0 {
		t.Errorf("BestLevel(%v) = %d, %d, %v", p, level, most, ok)
	}
}

// checkNotSuited checks that the places a level suits are not to be told.
func checkNotSuited(t *testing.T, p ruled, level int) {
	t.Helper()
	if got, ok := impl.SuitedPlaces(p.list, p.rule, level); ok || len(got) != 0 {
		t.Errorf("SuitedPlaces(%v, %d) = %v, %v", p, level, got, ok)
	}
}

// checkNoPressuresAt checks that there are no pressures of a list at a level.
func checkNoPressuresAt(t *testing.T, list []int, level int) {
	t.Helper()
	if got, ok := impl.PressuresAt(list, level); ok || len(got) != 0 {
		t.Errorf("PressuresAt(%v, %d) = %v, %v", list, level, got, ok)
	}
}

// checkNotReduced checks that there is no reduction.
func checkNotReduced(t *testing.T, elevation int, r impl.ZoneRule, level int) {
	t.Helper()
	if got, ok := impl.ReducerFor(elevation, r, level); ok || got != 0 {
		t.Errorf("ReducerFor(%d, %v, %d) = %d, %v", elevation, r, level, got, ok)
	}
}

// checkNotRaised checks that a list is not raised.
func checkNotRaised(t *testing.T, list []int, meters int) {
	t.Helper()
	if got, ok := impl.RaisePlaces(list, meters); ok || len(got) != 0 {
		t.Errorf("RaisePlaces(%v, %d) = %v, %v", list, meters, got, ok)
	}
}

// invalidPlaces returns lists that are not valid: with another number at every place, and too
// long ones.
func invalidPlaces() [][]int {
	lists := [][]int{make([]int, 13), slices.Repeat([]int{1000}, 13), slices.Repeat([]int{500}, 14), make([]int, 24), make([]int, 5000), append(make([]int, 12), -1), {500, -1, 1001}}
	for _, other := range otherElevations {
		for _, count := range []int{1, 2, 3, 12} {
			for place := range count {
				for _, elevation := range []int{0, 500, 1000} {
					list := slices.Repeat([]int{elevation}, count)
					list[place] = other
					lists = append(lists, list)
				}
			}
		}
	}
	return lists
}

func TestInvalidPlacesYieldZeroValues(t *testing.T) {
	for _, list := range invalidPlaces() {
		for _, r := range []impl.ZoneRule{rule(1, 1), rule(1, 200), rule(200, 200), rule(20, 60), rule(0, 60), {}} {
			checkNoRuledPlaces(t, ruled{list, r})
		}
		for _, level := range []int{0, 1, 1000, 2000, -1, 2001} {
			checkNoPressuresAt(t, list, level)
		}
		for _, meters := range []int{0, 1, -1, 2, 1000, -1000, 1001, -1001} {
			checkNotRaised(t, list, meters)
		}
	}
	for _, elevation := range otherElevations {
		for _, r := range []impl.ZoneRule{rule(1, 1), rule(1, 200), rule(200, 200), rule(20, 60), {}} {
			for _, level := range append([]int{0, 1, 60, 200, 1000, 1001, 1060, 1199, 1200, 1201, 2000}, otherSupplies...) {
				checkNotReduced(t, elevation, r, level)
			}
		}
	}
}

func TestInvalidRulesYieldZeroValues(t *testing.T) {
	for _, r := range invalidRules() {
		for _, list := range [][]int{nil, {0}, {1000}, {0, 40, 90}, {7, 7}, make([]int, 12), make([]int, 13), {-1}, {1001}} {
			checkNoRuledPlaces(t, ruled{list, r})
		}
		for _, elevation := range []int{0, 1, 40, 1000, -1, 1001} {
			for _, level := range []int{0, 1, 20, 60, 100, 200, 1001, 1200, 2000, -1, 2001} {
				checkNotReduced(t, elevation, r, level)
			}
		}
	}
}

func TestOtherLevelsAndMetersYieldZeroValues(t *testing.T) {
	for _, p := range somePlaces()[:300] {
		for _, level := range otherSupplies {
			checkNotSuited(t, p, level)
			checkNoPressuresAt(t, p.list, level)
			for _, elevation := range p.list {
				checkNotReduced(t, elevation, p.rule, level)
			}
		}
		for _, meters := range otherMeters {
			checkNotRaised(t, p.list, meters)
		}
	}
	for _, level := range otherSupplies {
		for _, r := range []impl.ZoneRule{rule(1, 1), rule(1, 200), rule(200, 200), rule(20, 60)} {
			for _, elevation := range []int{0, 1, 40, 999, 1000} {
				checkNotReduced(t, elevation, r, level)
				checkNotSuited(t, ruled{[]int{elevation}, r}, level)
			}
		}
	}
}

func TestListsOfUpToMaxPlacesAreValid(t *testing.T) {
	for count := range 13 {
		for _, elevation := range []int{0, 1, 999, 1000} {
			list, r := slices.Repeat([]int{elevation}, count), rule(20, 60)
			if got, ok := impl.SuitedPlaces(list, r, elevation+60); !ok || len(got) != count {
				t.Errorf("SuitedPlaces(%v) = %v, %v", list, got, ok)
			}
			if low, high, ok := impl.SuitingLevels(list, r); ok != (count > 0) || ok && (low != elevation+20 || high != elevation+60) {
				t.Errorf("SuitingLevels(%v) = %d, %d, %v", list, low, high, ok)
			}
			if got, ok := impl.FewestLevels(list, r); !ok || len(got) != min(count, 1) {
				t.Errorf("FewestLevels(%v) = %v, %v", list, got, ok)
			}
			if got, ok := impl.ZoneOf(list, r); !ok || !slices.Equal(got, make([]int, count)) {
				t.Errorf("ZoneOf(%v) = %v, %v", list, got, ok)
			}
			if got, ok := impl.PressuresAt(list, 2000); !ok || !slices.Equal(got, slices.Repeat([]int{2000 - elevation}, count)) {
				t.Errorf("PressuresAt(%v) = %v, %v", list, got, ok)
			}
			if _, most, ok := impl.BestLevel(list, r); !ok || most != count {
				t.Errorf("BestLevel(%v) = %d, %v", list, most, ok)
			}
			if got, ok := impl.RaisePlaces(list, 0); !ok || !slices.Equal(got, list) {
				t.Errorf("RaisePlaces(%v) = %v, %v", list, got, ok)
			}
		}
	}
}

// zoneLists returns the lists that the functions of the chapter return.
func zoneLists(p ruled, level int, meters int) [][]int {
	suited, _ := impl.SuitedPlaces(p.list, p.rule, level)
	fewest, _ := impl.FewestLevels(p.list, p.rule)
	zones, _ := impl.ZoneOf(p.list, p.rule)
	pressures, _ := impl.PressuresAt(p.list, level)
	raised, _ := impl.RaisePlaces(p.list, meters)
	return [][]int{suited, fewest, zones, pressures, raised}
}

// callAllForZones calls every function of the chapter and overwrites all memory of the results.
func callAllForZones(p ruled, level int, meters int) {
	for _, list := range zoneLists(p, level, meters) {
		all := list[:cap(list)]
		for i := range all {
			all[i] = -7
		}
	}
	impl.SuitingLevels(p.list, p.rule)
	impl.BestLevel(p.list, p.rule)
}

func TestZoneFunctionsLeaveTheirArgumentsAlone(t *testing.T) {
	list := somePlaces()
	for _, r := range invalidRules() {
		list = append(list, ruled{[]int{90, 0, 40}, r})
	}
	for _, places := range invalidPlaces() {
		list = append(list, ruled{places, rule(20, 60)})
	}
	for _, p := range list {
		places, all := roomBehind(p.list)
		before := slices.Clone(all)
		for _, level := range []int{0, 60, 1000, 2000, -1, 2001} {
			for _, meters := range []int{0, 1, -1, 1000, -1000, 1001} {
				callAllForZones(ruled{places, p.rule}, level, meters)
			}
		}
		if !slices.Equal(all, before) {
			t.Fatalf("an argument is modified: %v to %v", before, all)
		}
	}
}

func TestNothingBehindThePlacesIsRead(t *testing.T) {
	for i, p := range somePlaces() {
		places, all := roomBehind(p.list)
		for _, behind := range []int{-1, 0, 500, 1000} {
			for place := len(p.list); place < len(all); place++ {
				all[place] = behind
			}
			q, level, meters := ruled{places, p.rule}, i%2001, i%5-2
			want, got := zoneLists(p, level, meters), zoneLists(q, level, meters)
			if !slices.EqualFunc(got, want, slices.Equal[[]int]) {
				t.Fatalf("%v with %v behind it: %v, want %v", p, all[len(p.list):], got, want)
			}
			low, high, ok := impl.SuitingLevels(p.list, p.rule)
			if otherLow, otherHigh, other := impl.SuitingLevels(q.list, q.rule); otherLow != low || otherHigh != high || other != ok {
				t.Fatalf("SuitingLevels(%v) = %d, %d, %v, but %d, %d, %v with %d behind it", p, low, high, ok, otherLow, otherHigh, other, behind)
			}
			best, most, _ := impl.BestLevel(p.list, p.rule)
			if otherBest, otherMost, _ := impl.BestLevel(q.list, q.rule); otherBest != best || otherMost != most {
				t.Fatalf("BestLevel(%v) = %d, %d, but %d, %d with %d behind it", p, best, most, otherBest, otherMost, behind)
			}
		}
	}
}

func TestZonesShareNoMemory(t *testing.T) {
	// Raised by 0, each list is itself again; the second one is also what the level suits of it, the
	// third one its pressures and the fourth one its zones.
	for _, p := range []ruled{
		{[]int{0, 40, 90}, rule(20, 60)}, {[]int{0, 1, 2}, rule(58, 60)}, {[]int{30, 30}, rule(20, 60)}, {[]int{0, 0}, rule(1, 200)},
		{[]int{5, 9, 1, 7, 3, 12, 0, 2, 11, 4, 10, 6}, rule(50, 60)},
	} {
		before := slices.Clone(p.list)
		first := zoneLists(p, 60, 0)
		var want [][]int
		for _, list := range first {
			want = append(want, slices.Clone(list))
		}
		again := zoneLists(p, 60, 0)
		// Each list in turn is overwritten, and neither the argument nor the others may follow.
		for i, list := range first {
			all := list[:cap(list)]
			for place := range all {
				all[place] = -7
			}
			if !slices.Equal(p.list, before) || !slices.EqualFunc(again, want, slices.Equal[[]int]) || !slices.EqualFunc(first[i+1:], want[i+1:], slices.Equal[[]int]) {
				t.Fatalf("the list %d of %v shares memory: %v, %v, want %v", i, before, p.list, again, want)
			}
		}
		if third := zoneLists(p, 60, 0); !slices.EqualFunc(third, want, slices.Equal[[]int]) {
			t.Errorf("something of %v is kept: %v, want %v", before, third, want)
		}
		for place := range p.list {
			p.list[place] = -7
		}
		if !slices.EqualFunc(again, want, slices.Equal[[]int]) {
			t.Errorf("the lists change with the argument: %v, want %v", again, want)
		}
	}
}
