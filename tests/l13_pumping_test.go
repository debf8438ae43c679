package tests

import (
	"math"
	"math/rand"
	"slices"
	"testing"

	"loop.example/g00853/impl"
)

// otherPumps are numbers that are no Pump.
var otherPumps = []int{-1, 11, -10, 12, 60, 100, 1 << 32, -1 << 32, 1<<32 + 5, math.MinInt, math.MaxInt}

// otherPrices are numbers that are no prices.
var otherPrices = []int{-1, 101, -100, 102, 200, 1 << 32, -1 << 32, 1<<32 + 5, math.MinInt, math.MaxInt}

// triedDay is what a trial of all schedules of a Pumping shows: the number of the good ones, the
// first one of them, the first one of the cheapest of them, and its cost.
type triedDay struct {
	good     int
	first    []int
	cheapest []int
	cost     int
}

// pumpedWay is a way through the first hours of a day: the volumes and their cost.
type pumpedWay struct {
	volumes []int
	cost    int
}

// pumpDay returns a Pumping.
func pumpDay(t impl.Tank, most int, prices []int, outs []int) impl.Pumping {
	return impl.Pumping{Tank: t, Pump: most, Prices: prices, Outs: outs}
}

// copyOf returns a Pumping with memory of its own.
func copyOf(p impl.Pumping) impl.Pumping {
	return pumpDay(p.Tank, p.Pump, slices.Clone(p.Prices), slices.Clone(p.Outs))
}

// samePumping reports whether two Pumpings have the same fields.
func samePumping(a impl.Pumping, b impl.Pumping) bool {
	return a.Tank == b.Tank && a.Pump == b.Pump && slices.Equal(a.Prices, b.Prices) && slices.Equal(a.Outs, b.Outs)
}

// sumOfPrices returns what volumes cost.
func sumOfPrices(prices []int, volumes []int) int {
	cost := 0
	for hour, volume := range volumes {
		for range volume {
			cost += prices[hour]
		}
	}
	return cost
}

// pumpOn pumps the volumes of an hour and the following ones drop by drop, and reports whether
// nothing is spilled or missing and the level in the end is high enough.
func pumpOn(p impl.Pumping, hour int, level int, volumes []int) bool {
	for i, volume := range volumes {
		next, spilled, missing := stepDrops(at(p.Tank, level), volume, p.Outs[hour+i])
		if spilled > 0 || missing > 0 {
			return false
		}
		level = next
	}
	return level >= p.Tank.Level
}

// wantedGood reports whether a schedule is good.
func wantedGood(p impl.Pumping, schedule []int) bool {
	return len(schedule) == len(p.Outs) &&
		!slices.ContainsFunc(schedule, func(volume int) bool { return volume < 0 || volume > p.Pump }) && pumpOn(p, 0, p.Tank.Level, schedule)
}

// triedSchedules tries all schedules, from the lexicographically smallest one on.
func triedSchedules(p impl.Pumping) triedDay {
	var d triedDay
	volumeLists(len(p.Outs), p.Pump, func(schedule []int) {
		if !pumpOn(p, 0, p.Tank.Level, schedule) {
			return
		}
		cost := sumOfPrices(p.Prices, schedule)
		if d.good == 0 {
			d.first = slices.Clone(schedule)
		}
		if d.good == 0 || cost < d.cost {
			d.cheapest, d.cost = slices.Clone(schedule), cost
		}
		d.good++
	})
	return d
}

// wantedToGo tries all volumes from an hour on, and returns the smallest cost of those that suit.
func wantedToGo(p impl.Pumping, hour int, level int) (int, bool) {
	least, found := 0, false
	volumeLists(len(p.Outs)-hour, p.Pump, func(volumes []int) {
		if !pumpOn(p, hour, level, volumes) {
			return
		}
		if cost := sumOfPrices(p.Prices[hour:], volumes); !found || cost < least {
			least, found = cost, true
		}
	})
	return least, found
}

// wantedEager pumps drop by drop as long as there is room, hour after hour.
func wantedEager(p impl.Pumping) []int {
	schedule, level := make([]int, len(p.Outs)), p.Tank.Level
	for hour, out := range p.Outs {
		for schedule[hour] < p.Pump && level+schedule[hour] < p.Tank.Most {
			schedule[hour]++
		}
		level, _, _ = stepDrops(at(p.Tank, level), schedule[hour], out)
	}
	return schedule
}

// bestPumpedWay goes through a day from its beginning, keeps the first way in an order to each level,
// and returns the first one of those that end high enough.
func bestPumpedWay(p impl.Pumping, before func(a pumpedWay, b pumpedWay) bool) (pumpedWay, bool) {
	ways := map[int]pumpedWay{p.Tank.Level: {}}
	for hour, out := range p.Outs {
		longer := map[int]pumpedWay{}
		for level, way := range ways {
			for volume := range p.Pump + 1 {
				next, spilled, missing := stepDrops(at(p.Tank, level), volume, out)
				if spilled > 0 || missing > 0 {
					continue
				}
				this := pumpedWay{append(slices.Clone(way.volumes), volume), way.cost + volume*p.Prices[hour]}
				if other, ok := longer[next]; !ok || before(this, other) {
					longer[next] = this
				}
			}
		}
		ways = longer
	}
	var best pumpedWay
	found := false
	for level, way := range ways {
		if level >= p.Tank.Level && (!found || before(way, best)) {
			best, found = way, true
		}
	}
	return best, found
}

// isLazier orders ways by their volumes.
func isLazier(a pumpedWay, b pumpedWay) bool { return slices.Compare(a.volumes, b.volumes) < 0 }

// isCheaper orders ways by their cost, and by their volumes on ties.
func isCheaper(a pumpedWay, b pumpedWay) bool {
	return a.cost < b.cost || a.cost == b.cost && isLazier(a, b)
}

// allOf returns a list with one number for each of some hours.
func allOf(number int, hours int) []int { return slices.Repeat([]int{number}, hours) }

// firstOf returns a list for some hours that begins with numbers and goes on with 0.
func firstOf(hours int, numbers ...int) []int {
	list := make([]int, hours)
	copy(list, numbers)
	return list
}

// hillDay is a day of which all schedules may be tried.
func hillDay() impl.Pumping {
	return pumpDay(tank(4, 0, 8), 5, []int{10, 1, 7}, []int{3, 4, 2})
}

// nightDay has water that is cheap before it is needed.
func nightDay() impl.Pumping {
	return pumpDay(tank(0, 0, 20), 10, []int{1, 1, 9, 9, 9, 1}, []int{0, 0, 5, 5, 5, 0})
}

// emptiedDay has MaxHours hours; a full tank runs empty in the first one.
func emptiedDay(prices []int, next int) impl.Pumping {
	return pumpDay(tank(60, 0, 60), 10, prices, firstOf(12, 60, next))
}

// risingPrices returns the prices 1, 2, .. of some hours.
func risingPrices(hours int) []int {
	list := make([]int, hours)
	for hour := range list {
		list[hour] = hour + 1
	}
	return list
}

// knownDay is a Pumping with its schedules; one without a good schedule has none of them.
type knownDay struct {
	p        impl.Pumping
	cheapest []int
	cost     int
	eager    []int
	lazy     []int
}

// knownDays returns days of which each kind that the document names occurs.
func knownDays() []knownDay {
	return []knownDay{
		{hillDay(), []int{0, 5, 4}, 33, []int{4, 3, 4}, []int{0, 4, 5}},
		{pumpDay(tank(4, 0, 8), 1, []int{10, 1, 7}, []int{3, 4, 2}), nil, 0, nil, nil},
		{nightDay(), []int{5, 10, 0, 0, 0, 0}, 15, []int{10, 10, 0, 5, 5, 5}, []int{0, 0, 5, 5, 5, 0}},
		// Equal prices: of several cheapest schedules the lexicographically smallest one.
		{pumpDay(tank(4, 0, 8), 5, allOf(2, 3), []int{3, 4, 2}), []int{0, 4, 5}, 18, []int{4, 3, 4}, []int{0, 4, 5}},
		{pumpDay(tank(4, 0, 8), 5, allOf(0, 3), []int{3, 4, 2}), []int{0, 4, 5}, 0, []int{4, 3, 4}, []int{0, 4, 5}},
		{pumpDay(tank(2, 0, 8), 1, []int{1, 1}, []int{1, 0}), []int{0, 1}, 1, []int{1, 1}, []int{0, 1}},
		{pumpDay(tank(2, 0, 8), 3, []int{4, 4, 9}, []int{1, 2, 1}), []int{1, 3, 0}, 16, []int{3, 3, 3}, []int{0, 1, 3}},
		{pumpDay(tank(5, 0, 10), 3, []int{0, 5, 0}, []int{1, 1, 1}), []int{0, 0, 3}, 0, []int{3, 3, 1}, []int{0, 0, 3}},
		// Nothing can be pumped as the tank is full, in all hours or in the first one.
		{pumpDay(tank(8, 0, 8), 5, []int{1, 2, 3}, allOf(0, 3)), allOf(0, 3), 0, allOf(0, 3), allOf(0, 3)},
		{pumpDay(tank(8, 0, 8), 5, []int{0, 9, 9}, []int{3, 0, 0}), []int{0, 0, 3}, 27, []int{0, 3, 0}, []int{0, 0, 3}},
		{pumpDay(tank(8, 0, 8), 5, []int{0, 7, 9}, []int{3, 0, 0}), []int{0, 3, 0}, 21, []int{0, 3, 0}, []int{0, 0, 3}},
		{pumpDay(tank(8, 0, 8), 5, []int{0, 7, 9}, []int{0, 0, 1}), nil, 0, nil, nil},
		{pumpDay(tank(7, 7, 7), 5, []int{3, 4}, []int{0, 0}), []int{0, 0}, 0, []int{0, 0}, []int{0, 0}},
		{pumpDay(tank(7, 7, 7), 5, []int{3, 4}, []int{1, 0}), nil, 0, nil, nil},
		{pumpDay(tank(0, 0, 0), 10, []int{0}, []int{0}), []int{0}, 0, []int{0}, []int{0}},
		{pumpDay(tank(0, 0, 0), 10, []int{0}, []int{1}), nil, 0, nil, nil},
		{pumpDay(tank(60, 0, 60), 10, []int{7}, []int{0}), []int{0}, 0, []int{0}, []int{0}},
		{pumpDay(tank(60, 0, 60), 10, []int{7}, []int{1}), nil, 0, nil, nil},
		{pumpDay(tank(59, 0, 60), 10, []int{7}, []int{1}), []int{1}, 7, []int{1}, []int{1}},
		{pumpDay(tank(60, 60, 60), 10, allOf(100, 12), allOf(0, 12)), allOf(0, 12), 0, allOf(0, 12), allOf(0, 12)},
		// Nothing can be pumped as Pump is 0.
		{pumpDay(tank(4, 0, 8), 0, []int{100, 100}, []int{0, 0}), []int{0, 0}, 0, []int{0, 0}, []int{0, 0}},
		{pumpDay(tank(4, 0, 8), 0, []int{0, 0}, []int{0, 1}), nil, 0, nil, nil},
		{pumpDay(tank(4, 4, 8), 0, []int{0, 0}, []int{1, 0}), nil, 0, nil, nil},
		// The tank runs empty whatever is pumped.
		{pumpDay(tank(2, 0, 8), 1, []int{1, 1}, []int{4, 0}), nil, 0, nil, nil},
		{pumpDay(tank(2, 2, 8), 1, []int{1, 1}, []int{1, 0}), []int{1, 0}, 1, []int{1, 1}, []int{1, 0}},
		{pumpDay(tank(2, 2, 8), 1, []int{1, 1}, []int{2, 0}), nil, 0, nil, nil},
		{pumpDay(tank(60, 0, 60), 10, allOf(0, 12), firstOf(12, 100)), nil, 0, nil, nil},
		{pumpDay(tank(0, 0, 60), 10, []int{0}, []int{100}), nil, 0, nil, nil},
		{emptiedDay(allOf(50, 12), 11), nil, 0, nil, nil},
		{emptiedDay(allOf(50, 12), 10), firstOf(12, 0, 10, 0, 0, 0, 0, 10, 10, 10, 10, 10, 10), 3500, firstOf(12, 0, 10, 10, 10, 10, 10, 10, 10), firstOf(12, 0, 10, 0, 0, 0, 0, 10, 10, 10, 10, 10, 10)},
		{emptiedDay(risingPrices(12), 10), firstOf(12, 0, 10, 10, 10, 10, 10, 10, 10), 350, firstOf(12, 0, 10, 10, 10, 10, 10, 10, 10), firstOf(12, 0, 10, 0, 0, 0, 0, 10, 10, 10, 10, 10, 10)},
		// All that can be pumped must be pumped, at the greatest price, or a little less.
		{pumpDay(tank(0, 0, 60), 10, allOf(100, 12), allOf(10, 12)), allOf(10, 12), 12000, allOf(10, 12), allOf(10, 12)},
		{pumpDay(tank(1, 1, 60), 10, allOf(100, 12), append(allOf(10, 11), 9)), append(allOf(10, 11), 9), 11900, allOf(10, 12), append(allOf(10, 11), 9)},
		{pumpDay(tank(0, 0, 60), 10, allOf(100, 12), append(allOf(10, 11), 11)), nil, 0, nil, nil},
		{pumpDay(tank(0, 0, 1), 1, []int{100}, []int{1}), []int{1}, 100, []int{1}, []int{1}},
	}
}

// smallPumpings calls a function with all Pumpings of one and of two hours of all tanks with a
// Most of up to 3, a Pump of up to 3, prices of up to 2 and Outs of up to 3, and with part of
// those of three hours.
func smallPumpings(call func(p impl.Pumping)) {
	for i, t := range allTanks(0, 3) {
		for most := range 4 {
			for hours := 1; hours <= 3; hours++ {
				place := 0
				volumeLists(hours, 2, func(prices []int) {
					volumeLists(hours, 3, func(outs []int) {
						place++
						if hours < 3 || place%29 == i {
							call(pumpDay(t, most, slices.Clone(prices), slices.Clone(outs)))
						}
					})
				})
			}
		}
	}
}

// drawnPrices returns prices of one of several kinds: equal ones, some of a few, or any.
func drawnPrices(r *rand.Rand, hours int) []int {
	most := []int{0, 1, 3, 100, 100}[r.Intn(5)]
	list := allOf([]int{0, 1, 100, r.Intn(101)}[r.Intn(4)], hours)
	if r.Intn(4) == 0 {
		return list
	}
	for hour := range list {
		list[hour] = []int{0, 100, r.Intn(most + 1), r.Intn(most + 1), r.Intn(most + 1)}[r.Intn(5)]
	}
	return list
}

// drawnOuts returns what some drawn schedule may fill again; a little less, more or anything else
// in some of the hours, or nothing in most of them.
func drawnOuts(r *rand.Rand, t impl.Tank, most int, hours int) []int {
	list, level := make([]int, hours), t.Level
	for hour := range list {
		room := min(most, t.Most-level)
		level += []int{0, room, room, r.Intn(room + 1)}[r.Intn(4)]
		stock := level - t.Least
		list[hour] = []int{0, stock, r.Intn(stock + 1), r.Intn(min(stock, most) + 1)}[r.Intn(4)]
		level -= list[hour]
	}
	for hour := hours - 1; hour >= 0 && level < t.Level; hour-- {
		back := min(list[hour], t.Level-level)
		list[hour] -= back
		level += back
	}
	switch place := r.Intn(hours); r.Intn(7) {
	case 0:
		list[place] = min(list[place]+1, 100)
	case 1:
		list[place] = max(list[place]-1, 0)
	case 2:
		list[place] = []int{r.Intn(most + 1), r.Intn(101), 100}[r.Intn(3)]
	case 3:
		list = firstOf(hours, list[place])
	}
	return list
}

// drawnPumping returns a Pumping with a number of hours and a Pump.
func drawnPumping(r *rand.Rand, hours int, most int) impl.Pumping {
	t := drawnTank(r)
	return pumpDay(t, most, drawnPrices(r, hours), drawnOuts(r, t, most, hours))
}

// drawnDays returns drawn Pumpings of which all schedules may be tried.
func drawnDays() []impl.Pumping {
	var list []impl.Pumping
	r := rand.New(rand.NewSource(13))
	for range 400 {
		for _, size := range [][2]int{{1, 10}, {2, 10}, {3, 10}, {3, 7}, {4, 5}, {5, 3}, {6, 2}, {9, 1}, {12, 0}} {
			list = append(list, drawnPumping(r, size[0], size[1]))
		}
	}
	return list
}

// somePumpings returns Pumpings of all kinds of which all schedules may be tried.
func somePumpings() []impl.Pumping {
	var list []impl.Pumping
	for _, k := range knownDays() {
		if len(k.p.Outs) <= 3 {
			list = append(list, k.p)
		}
	}
	smallPumpings(func(p impl.Pumping) { list = append(list, p) })
	return append(list, drawnDays()...)
}

// longPumpings returns Pumpings with too many schedules to try them all.
func longPumpings() []impl.Pumping {
	var list []impl.Pumping
	for _, k := range knownDays() {
		if len(k.p.Outs) > 3 {
			list = append(list, k.p)
		}
	}
	r := rand.New(rand.NewSource(131))
	for range 150 {
		for _, size := range [][2]int{{12, 10}, {12, 10}, {12, 1 + r.Intn(10)}, {4 + r.Intn(9), 1 + r.Intn(10)}} {
			list = append(list, drawnPumping(r, size[0], size[1]))
		}
	}
	return list
}

// bordersOfLevels returns the levels at the borders of a tank and some between.
func bordersOfLevels(t impl.Tank) []int {
	list := []int{t.Least, t.Most, t.Level, max(t.Least, t.Level-1), min(t.Most, t.Level+1), min(t.Most, t.Least+1), max(t.Least, t.Most-1), (t.Least + t.Most) / 2}
	slices.Sort(list)
	return slices.Compact(list)
}

func TestTheLimitsOfPumping(t *testing.T) {
	if impl.MaxPump != 10 || impl.MaxPrice != 100 {
		t.Error("the limits are", impl.MaxPump, impl.MaxPrice)
	}
}

// invalidPumpings returns Pumpings that are not valid, most of them for one reason only.
func invalidPumpings() []impl.Pumping {
	var list []impl.Pumping
	good := pumpDay(tank(10, 5, 20), 5, []int{1, 2, 3}, []int{0, 1, 0})
	for _, other := range otherPumps {
		p := copyOf(good)
		p.Pump = other
		list = append(list, p)
	}
	for _, other := range invalidTanks() {
		list = append(list, pumpDay(other, 5, []int{1}, []int{0}), pumpDay(other, 0, allOf(1, 12), allOf(0, 12)), pumpDay(other, 10, []int{1, 2, 3}, []int{0, 1, 0}))
	}
	for _, hours := range []int{1, 2, 3, 12} {
		for place := range hours {
			for _, other := range otherPrices {
				p := pumpDay(tank(10, 5, 20), 5, allOf(1, hours), allOf(0, hours))
				p.Prices[place] = other
				list = append(list, p)
			}
			for _, other := range otherVolumes {
				p := pumpDay(tank(10, 5, 20), 5, allOf(1, hours), allOf(0, hours))
				p.Outs[place] = other
				list = append(list, p)
			}
		}
	}
	for prices := range 15 {
		for outs := range 15 {
			if prices != outs || prices == 0 || prices > 12 {
				list = append(list, pumpDay(tank(10, 5, 20), 5, allOf(1, prices), allOf(0, outs)))
			}
		}
	}
	return append(list, pumpDay(tank(10, 5, 20), 5, nil, nil), pumpDay(tank(10, 5, 20), 0, []int{}, []int{}), pumpDay(tank(10, 5, 20), 5, allOf(1, 5000), allOf(0, 5000)),
		pumpDay(tank(10, 5, 20), 5, nil, []int{0}), pumpDay(tank(10, 5, 20), 5, []int{1}, nil), impl.Pumping{})
}

func TestValidPumpings(t *testing.T) {
	for _, p := range invalidPumpings() {
		if impl.IsValidPumping(p) {
			t.Error("valid:", p)
		}
	}
	for _, k := range knownDays() {
		if !impl.IsValidPumping(k.p) {
			t.Error("not valid:", k.p)
		}
	}
	for _, p := range append(somePumpings(), longPumpings()...) {
		if !impl.IsValidPumping(p) {
			t.Fatal("not valid:", p)
		}
	}
	for number := -3; number <= 105; number++ {
		for hours := range 14 {
			hasDay := hours >= 1 && hours <= 12
			for _, k := range []impl.Tank{{}, tank(10, 5, 20), tank(60, 60, 60)} {
				if got := impl.IsValidPumping(pumpDay(k, number, allOf(7, hours), allOf(7, hours))); got != (hasDay && number >= 0 && number <= 10) {
					t.Errorf("with the Pump %d and %d hours: %v", number, hours, got)
				}
				if got := impl.IsValidPumping(pumpDay(k, 5, allOf(number, hours), allOf(7, hours))); got != (hasDay && number >= 0 && number <= 100) {
					t.Errorf("with the price %d in %d hours: %v", number, hours, got)
				}
				if got := impl.IsValidPumping(pumpDay(k, 5, allOf(7, hours), allOf(number, hours))); got != (hasDay && number >= 0 && number <= 100) {
					t.Errorf("with %d taken out in %d hours: %v", number, hours, got)
				}
			}
		}
	}
	for _, k := range allTanks(0, 60) {
		if !impl.IsValidPumping(pumpDay(k, 10, []int{0, 100}, []int{100, 0})) {
			t.Fatal("not valid with", k)
		}
	}
}

func TestKnownSchedules(t *testing.T) {
	full := pumpDay(tank(8, 0, 8), 5, []int{1, 2, 3}, []int{0, 3, 0})
	shut := pumpDay(tank(4, 0, 8), 0, []int{9, 9}, []int{0, 0})
	widest := pumpDay(tank(0, 0, 60), 10, allOf(100, 12), allOf(10, 12))
	for _, k := range []struct {
		p        impl.Pumping
		schedule []int
		cost     int
		good     bool
	}{
		{hillDay(), []int{0, 5, 4}, 33, true}, {hillDay(), []int{2, 5, 2}, 39, true}, {hillDay(), []int{4, 3, 4}, 71, true}, {hillDay(), []int{0, 5, 5}, 40, true},
		// Just as high as at the beginning, and one below.
		{hillDay(), []int{0, 4, 5}, 39, true}, {hillDay(), []int{0, 5, 3}, 0, false}, {hillDay(), []int{0, 3, 5}, 0, false}, {hillDay(), []int{0, 4, 4}, 0, false},
		// One unit spills or is missing, at first or later.
		{hillDay(), []int{5, 3, 4}, 0, false}, {hillDay(), []int{4, 4, 4}, 0, false}, {hillDay(), []int{4, 3, 5}, 0, false}, {hillDay(), []int{5, 5, 5}, 0, false}, {hillDay(), []int{0, 0, 5}, 0, false}, {hillDay(), []int{0, 2, 5}, 0, false},
		{pumpDay(tank(3, 1, 9), 5, []int{1, 1}, []int{2, 3}), []int{0, 5}, 5, true}, {pumpDay(tank(3, 1, 9), 5, []int{1, 1}, []int{3, 2}), []int{0, 5}, 0, false}, {pumpDay(tank(3, 1, 9), 5, []int{1, 1}, []int{3, 2}), []int{1, 5}, 6, true},
		// Of another length.
		{hillDay(), []int{0, 5}, 0, false}, {hillDay(), []int{4, 5}, 0, false}, {hillDay(), []int{0, 5, 4, 0}, 0, false}, {hillDay(), []int{0}, 0, false}, {hillDay(), []int{}, 0, false}, {hillDay(), nil, 0, false},
		// All is well, but for a volume of -1 or of Pump + 1.
		{hillDay(), []int{-1, 5, 5}, 0, false}, {hillDay(), []int{3, 5, -1}, 0, false}, {hillDay(), []int{4, -1, 5}, 0, false}, {hillDay(), []int{0, 6, 3}, 0, false}, {hillDay(), []int{0, 4, 6}, 0, false}, {hillDay(), []int{2, 5, math.MinInt}, 0, false},
		{hillDay(), []int{math.MaxInt, 5, 4}, 0, false}, {hillDay(), []int{0, 5, 1<<32 + 4}, 0, false}, {hillDay(), []int{0, 0, 100}, 0, false}, {hillDay(), []int{0, 0, 101}, 0, false},
		// Hours in which nothing can be pumped.
		{full, []int{0, 0, 3}, 9, true}, {full, []int{0, 0, 2}, 0, false}, {full, []int{1, 0, 3}, 0, false}, {full, []int{0, 1, 2}, 0, false}, {full, []int{0, 0, 4}, 0, false}, {full, []int{0, 3, 0}, 0, false},
		{shut, []int{0, 0}, 0, true}, {shut, []int{1, 0}, 0, false}, {shut, []int{0, 1}, 0, false}, {shut, []int{-1, 0}, 0, false}, {shut, []int{0, -1}, 0, false}, {shut, []int{0}, 0, false},
		{pumpDay(tank(4, 0, 8), 0, []int{9, 9}, []int{0, 1}), []int{0, 0}, 0, false},
		{widest, allOf(10, 12), 12000, true}, {widest, append(allOf(10, 11), 9), 0, false}, {widest, allOf(10, 11), 0, false}, {widest, allOf(10, 13), 0, false}, {widest, append([]int{11}, allOf(10, 11)...), 0, false},
		{pumpDay(tank(50, 0, 60), 10, []int{3}, []int{10}), []int{10}, 30, true}, {pumpDay(tank(51, 0, 60), 10, []int{3}, []int{10}), []int{10}, 0, false}, {pumpDay(tank(51, 0, 60), 10, []int{3}, []int{9}), []int{9}, 27, true},
		{pumpDay(tank(0, 0, 60), 10, []int{100, 0}, []int{5, 100}), []int{5, 10}, 0, false},
	} {
		if got := impl.IsGoodSchedule(k.p, k.schedule); got != k.good {
			t.Errorf("IsGoodSchedule(%v, %v) = %v", k.p, k.schedule, got)
		}
		if cost, ok := impl.ScheduleCost(k.p, k.schedule); ok != k.good || cost != k.cost {
			t.Errorf("ScheduleCost(%v, %v) = %d, %v, want %d, %v", k.p, k.schedule, cost, ok, k.cost, k.good)
		}
	}
}

// checkSchedule checks whether a schedule is good and what it costs, and returns both.
func checkSchedule(t *testing.T, p impl.Pumping, schedule []int) (int, bool) {
	t.Helper()
	want, cost := wantedGood(p, schedule), 0
	if want {
		cost = sumOfPrices(p.Prices, schedule)
	}
	if got := impl.IsGoodSchedule(p, schedule); got != want {
		t.Fatalf("IsGoodSchedule(%v, %v) = %v", p, schedule, got)
	}
	if got, ok := impl.ScheduleCost(p, schedule); ok != want || got != cost {
		t.Fatalf("ScheduleCost(%v, %v) = %d, %v, want %d, %v", p, schedule, got, ok, cost, want)
	}
	return cost, want
}

func TestNoGoodScheduleCostsLessThanTheCheapestOne(t *testing.T) {
	none, single, several, dearer := 0, 0, 0, 0
	for _, p := range somePumpings() {
		cheapest, least, ok := impl.CheapestSchedule(p)
		good, ties := 0, 0
		volumeLists(len(p.Outs), p.Pump, func(schedule []int) {
			cost, is := checkSchedule(t, p, schedule)
			if !is {
				return
			}
			good++
			if !ok || cost < least {
				t.Fatalf("CheapestSchedule(%v) = %v, %d, %v, but %v costs %d", p, cheapest, least, ok, schedule, cost)
			}
			if cost > least {
				dearer++
			} else if ties++; slices.Compare(schedule, cheapest) < 0 {
				t.Fatalf("CheapestSchedule(%v) = %v, %d, but %v costs as much", p, cheapest, least, schedule)
			}
		})
		if !ok {
			none++
			continue
		}
		if cost, is := impl.ScheduleCost(p, cheapest); !is || cost != least || ties == 0 {
			t.Fatalf("CheapestSchedule(%v) = %v, %d, but it costs %d, %v", p, cheapest, least, cost, is)
		}
		if cost, is := impl.CostToGo(p, 0, p.Tank.Level); !is || cost != least {
			t.Fatalf("CheapestSchedule(%v) = %v, %d, but CostToGo is %d, %v", p, cheapest, least, cost, is)
		}
		if ties > 1 {
			several++
		} else if good > 1 {
			single++
		}
	}
	if min(none, single, several, dearer) < 1000 {
		t.Error("too few of some kind:", none, single, several, dearer)
	}
}

func TestSchedulesWithOtherVolumesAreNotGood(t *testing.T) {
	good, other := 0, 0
	smallPumpings(func(p impl.Pumping) {
		if len(p.Outs) == 3 {
			return
		}
		for length := range len(p.Outs) + 2 {
			volumeLists(length, p.Pump+2, func(list []int) {
				if _, is := checkSchedule(t, p, shifted(list, -1)); is {
					good++
				} else {
					other++
				}
			})
		}
	})
	if min(good, other) < 1000 {
		t.Error("too few of some kind:", good, other)
	}
	for _, p := range append(drawnDays(), longPumpings()...) {
		cheapest, _, ok := impl.CheapestSchedule(p)
		if !ok {
			continue
		}
		for hour := range cheapest {
			for _, volume := range []int{-1, p.Pump + 1, -cheapest[hour] - 1, 100, 101, 1 << 32, -1 << 32, math.MinInt, math.MaxInt} {
				schedule := slices.Clone(cheapest)
				schedule[hour] = volume
				if cost, ok := impl.ScheduleCost(p, schedule); ok || cost != 0 || impl.IsGoodSchedule(p, schedule) {
					t.Fatalf("ScheduleCost(%v, %v) = %d, %v", p, schedule, cost, ok)
				}
			}
			checkSchedule(t, p, cheapest[:hour])
		}
		checkSchedule(t, p, append(slices.Clone(cheapest), 0))
	}
}

// checkDay checks the schedules that a day is to have, none if there is no cheapest one.
func checkDay(t *testing.T, k knownDay) {
	t.Helper()
	good := len(k.cheapest) > 0
	if got, cost, ok := impl.CheapestSchedule(k.p); ok != good || cost != k.cost || !slices.Equal(got, k.cheapest) {
		t.Fatalf("CheapestSchedule(%v) = %v, %d, %v, want %v, %d", k.p, got, cost, ok, k.cheapest, k.cost)
	}
	if got, ok := impl.EagerSchedule(k.p); ok != good || !slices.Equal(got, k.eager) {
		t.Fatalf("EagerSchedule(%v) = %v, %v, want %v", k.p, got, ok, k.eager)
	}
	if got, ok := impl.LazySchedule(k.p); ok != good || !slices.Equal(got, k.lazy) {
		t.Fatalf("LazySchedule(%v) = %v, %v, want %v", k.p, got, ok, k.lazy)
	}
}

func TestKnownPumpingDays(t *testing.T) {
	for _, k := range knownDays() {
		checkDay(t, k)
	}
}

func TestSchedulesAreTheFirstOfTheirKindInATrial(t *testing.T) {
	none, lazyIsCheapest, lazyIsDearer, eagerIsCheapest, eagerIsDearer := 0, 0, 0, 0, 0
	for _, p := range somePumpings() {
		d := triedSchedules(p)
		k := knownDay{p: p, cheapest: d.cheapest, cost: d.cost, lazy: d.first}
		// No schedule without spilling ever has a higher level than the eager one. So the eager one
		// is good if there is a good one at all.
		if eager := wantedEager(p); wantedGood(p, eager) {
			k.eager = eager
		}
		if (d.good > 0) != (len(k.eager) > 0) {
			t.Fatalf("%v has %d good schedules, but the eager one is %v", p, d.good, k.eager)
		}
		checkDay(t, k)
		if d.good == 0 {
			none++
			continue
		}
		if sumOfPrices(p.Prices, k.lazy) > d.cost {
			lazyIsDearer++
		} else {
			lazyIsCheapest++
		}
		if sumOfPrices(p.Prices, k.eager) > d.cost {
			eagerIsDearer++
		} else {
			eagerIsCheapest++
		}
	}
	if min(none, lazyIsCheapest, lazyIsDearer, eagerIsCheapest, eagerIsDearer) < 500 {
		t.Error("too few of some kind:", none, lazyIsCheapest, lazyIsDearer, eagerIsCheapest, eagerIsDearer)
	}
}

func TestSchedulesOfLongDays(t *testing.T) {
	none, lazyIsDearer, eagerIsDearer := 0, 0, 0
	for _, p := range longPumpings() {
		k := knownDay{p: p}
		cheapest, found := bestPumpedWay(p, isCheaper)
		lazy, _ := bestPumpedWay(p, isLazier)
		k.cheapest, k.cost, k.lazy = cheapest.volumes, cheapest.cost, lazy.volumes
		if eager := wantedEager(p); wantedGood(p, eager) {
			k.eager = eager
		}
		checkDay(t, k)
		if !found {
			none++
			continue
		}
		if cost, ok := impl.CostToGo(p, 0, p.Tank.Level); !ok || cost != k.cost {
			t.Fatalf("CostToGo(%v) = %d, %v, want %d", p, cost, ok, k.cost)
		}
		if cost, ok := impl.ScheduleCost(p, k.lazy); !ok || cost != sumOfPrices(p.Prices, k.lazy) || cost < k.cost {
			t.Fatalf("ScheduleCost(%v, %v) = %d, %v", p, k.lazy, cost, ok)
		} else if cost > k.cost {
			lazyIsDearer++
		}
		if cost, ok := impl.ScheduleCost(p, k.eager); !ok || cost != sumOfPrices(p.Prices, k.eager) || cost < k.cost {
			t.Fatalf("ScheduleCost(%v, %v) = %d, %v", p, k.eager, cost, ok)
		} else if cost > k.cost {
			eagerIsDearer++
		}
	}
	if min(none, lazyIsDearer, eagerIsDearer) < 50 {
		t.Error("too few of some kind:", none, lazyIsDearer, eagerIsDearer)
	}
}

func TestNoChangedScheduleOfALongDayCostsLess(t *testing.T) {
	r := rand.New(rand.NewSource(132))
	good, dearer := 0, 0
	for _, p := range longPumpings() {
		_, least, ok := impl.CheapestSchedule(p)
		eager, _ := impl.EagerSchedule(p)
		schedule := slices.Clone(eager)
		for range 200 {
			if !ok {
				break
			}
			// From one good schedule to the next, a volume becomes another one, or moves to another hour.
			next, from, to := slices.Clone(schedule), r.Intn(len(schedule)), r.Intn(len(schedule))
			moved := 1 + r.Intn(3)
			next[from] -= moved
			if r.Intn(3) > 0 {
				next[to] += moved
			}
			cost, is := checkSchedule(t, p, next)
			if !is {
				continue
			}
			if cost < least {
				t.Fatalf("the cheapest schedule of %v costs %d, but %v costs %d", p, least, next, cost)
			}
			schedule = next
			good++
			if cost > least {
				dearer++
			}
		}
	}
	if min(good, dearer) < 1000 {
		t.Error("too few of some kind:", good, dearer)
	}
}

func TestKnownCostsToGo(t *testing.T) {
	hill, night, widest := hillDay(), nightDay(), pumpDay(tank(0, 0, 60), 10, allOf(100, 12), allOf(10, 12))
	for _, k := range []struct {
		p           impl.Pumping
		hour, level int
		want        int
		ok          bool
	}{
		// The first hour, from Least to Most.
		{hill, 0, 0, 70, true}, {hill, 0, 1, 60, true}, {hill, 0, 2, 50, true}, {hill, 0, 3, 40, true}, {hill, 0, 4, 33, true}, {hill, 0, 5, 26, true}, {hill, 0, 6, 19, true}, {hill, 0, 7, 18, true}, {hill, 0, 8, 17, true},
		// Later ones, where too little may be left for the end of the day.
		{hill, 1, 0, 40, true}, {hill, 1, 1, 33, true}, {hill, 1, 2, 26, true}, {hill, 1, 8, 14, true}, {hill, 2, 0, 0, false}, {hill, 2, 1, 35, true}, {hill, 2, 2, 28, true}, {hill, 2, 5, 7, true}, {hill, 2, 6, 0, true}, {hill, 2, 8, 0, true},
		// The end of the day, and beyond.
		{hill, 3, 4, 0, true}, {hill, 3, 5, 0, true}, {hill, 3, 8, 0, true}, {hill, 3, 3, 0, false}, {hill, 3, 0, 0, false}, {hill, 4, 4, 0, false}, {hill, 4, 8, 0, false}, {hill, 13, 8, 0, false}, {hill, math.MaxInt, 8, 0, false},
		// Before the day, and beyond Least and Most.
		{hill, -1, 4, 0, false}, {hill, -1, 8, 0, false}, {hill, math.MinInt, 8, 0, false}, {hill, 0, -1, 0, false}, {hill, 0, 9, 0, false}, {hill, 3, -1, 0, false}, {hill, 3, 9, 0, false}, {hill, 0, math.MaxInt, 0, false}, {hill, 0, math.MinInt, 0, false},
		{night, 0, 0, 15, true}, {night, 2, 0, 135, true}, {night, 2, 14, 9, true}, {night, 2, 15, 0, true}, {night, 5, 0, 0, true}, {night, 6, 0, 0, true}, {night, 6, 20, 0, true}, {night, 7, 20, 0, false}, {night, 6, 21, 0, false},
		{widest, 0, 0, 12000, true}, {widest, 0, 60, 6000, true}, {widest, 11, 0, 1000, true}, {widest, 11, 9, 100, true}, {widest, 11, 10, 0, true}, {widest, 12, 0, 0, true}, {widest, 12, 60, 0, true}, {widest, 13, 0, 0, false}, {widest, 12, 61, 0, false},
		// The smallest level may be more than 0.
		{pumpDay(tank(10, 5, 20), 5, []int{3, 2}, []int{1, 1}), 0, 5, 16, true}, {pumpDay(tank(10, 5, 20), 5, []int{3, 2}, []int{1, 1}), 0, 4, 0, false}, {pumpDay(tank(10, 5, 20), 5, []int{3, 2}, []int{1, 1}), 0, 20, 0, true},
		{pumpDay(tank(10, 5, 20), 5, []int{3, 2}, []int{1, 1}), 0, 21, 0, false}, {pumpDay(tank(10, 5, 20), 5, []int{3, 2}, []int{1, 1}), 1, 5, 0, false}, {pumpDay(tank(10, 5, 20), 5, []int{3, 2}, []int{1, 1}), 1, 6, 10, true},
		// There is no good schedule, but there may be one with more water.
		{pumpDay(tank(2, 0, 8), 1, []int{1, 1}, []int{4, 0}), 0, 2, 0, false}, {pumpDay(tank(2, 0, 8), 1, []int{1, 1}, []int{4, 0}), 0, 4, 2, true}, {pumpDay(tank(2, 0, 8), 1, []int{1, 1}, []int{4, 0}), 0, 6, 0, true}, {pumpDay(tank(2, 0, 8), 1, []int{1, 1}, []int{4, 0}), 1, 1, 1, true},
		// Nothing can be pumped.
		{pumpDay(tank(8, 0, 8), 5, []int{1, 2}, []int{0, 1}), 0, 8, 0, false}, {pumpDay(tank(8, 0, 8), 5, []int{1, 2}, []int{1, 0}), 0, 8, 2, true}, {pumpDay(tank(8, 0, 8), 5, []int{1, 2}, []int{1, 0}), 1, 8, 0, true}, {pumpDay(tank(4, 0, 8), 0, []int{9}, []int{0}), 0, 4, 0, true},
		{pumpDay(tank(4, 0, 8), 0, []int{9}, []int{0}), 0, 3, 0, false}, {pumpDay(tank(4, 0, 8), 0, []int{9}, []int{1}), 0, 5, 0, true}, {pumpDay(tank(4, 0, 8), 0, []int{9}, []int{1}), 0, 4, 0, false},
	} {
		if got, ok := impl.CostToGo(k.p, k.hour, k.level); ok != k.ok || got != k.want {
			t.Errorf("CostToGo(%v, %d, %d) = %d, %v, want %d, %v", k.p, k.hour, k.level, got, ok, k.want, k.ok)
		}
	}
}

func TestCostsToGoAreTheSmallestInATrial(t *testing.T) {
	none, free, paid := 0, 0, 0
	for _, p := range somePumpings() {
		for hour := range len(p.Outs) + 1 {
			for _, level := range bordersOfLevels(p.Tank) {
				want, suits := wantedToGo(p, hour, level)
				if got, ok := impl.CostToGo(p, hour, level); ok != suits || got != want {
					t.Fatalf("CostToGo(%v, %d, %d) = %d, %v, want %d, %v", p, hour, level, got, ok, want, suits)
				}
				switch {
				case !suits:
					none++
				case want == 0:
					free++
				default:
					paid++
				}
			}
		}
	}
	if min(none, free, paid) < 1000 {
		t.Error("too few of some kind:", none, free, paid)
	}
}

func TestKnownShadowPrices(t *testing.T) {
	hill, night := hillDay(), nightDay()
	for _, k := range []struct {
		p           impl.Pumping
		hour, level int
		want        int
		ok          bool
	}{
		{hill, 0, 0, 10, true}, {hill, 0, 2, 10, true}, {hill, 0, 3, 7, true}, {hill, 0, 4, 7, true}, {hill, 0, 6, 1, true}, {hill, 0, 7, 1, true}, {hill, 1, 0, 7, true}, {hill, 1, 1, 7, true}, {hill, 2, 1, 7, true}, {hill, 2, 2, 7, true}, {hill, 2, 5, 7, true}, {hill, 2, 6, 0, true}, {hill, 2, 7, 0, true},
		// One of both fails, or each of them.
		{hill, 0, 8, 0, false}, {hill, 2, 8, 0, false}, {hill, 3, 8, 0, false}, {hill, 2, 0, 0, false}, {hill, 3, 3, 0, false}, {hill, 1, 8, 0, false}, {hill, 0, -1, 0, false}, {hill, 2, -1, 0, false}, {hill, 0, 9, 0, false}, {hill, 3, 0, 0, false},
		{hill, 0, math.MaxInt, 0, false}, {hill, 0, math.MinInt, 0, false}, {hill, 0, math.MaxInt - 1, 0, false},
		// The end of the day, and beyond.
		{hill, 3, 4, 0, true}, {hill, 3, 7, 0, true}, {hill, 4, 4, 0, false}, {hill, 4, 7, 0, false}, {hill, -1, 4, 0, false}, {hill, math.MinInt, 4, 0, false}, {hill, math.MaxInt, 4, 0, false},
		{night, 0, 0, 1, true}, {night, 0, 14, 1, true}, {night, 0, 15, 0, true}, {night, 0, 19, 0, true}, {night, 0, 20, 0, false}, {night, 2, 14, 9, true}, {night, 2, 15, 0, true}, {night, 6, 19, 0, true}, {night, 6, 20, 0, false},
		{pumpDay(tank(7, 7, 7), 5, []int{3}, []int{0}), 0, 7, 0, false}, {pumpDay(tank(10, 5, 20), 5, []int{3, 2}, []int{1, 1}), 0, 5, 3, true}, {pumpDay(tank(10, 5, 20), 5, []int{3, 2}, []int{1, 1}), 0, 4, 0, false},
		{pumpDay(tank(10, 5, 20), 5, []int{3, 2}, []int{1, 1}), 0, 19, 0, true}, {pumpDay(tank(10, 5, 20), 5, []int{3, 2}, []int{1, 1}), 0, 20, 0, false}, {pumpDay(tank(60, 0, 60), 10, []int{100}, []int{60}), 0, 59, 0, false},
		{pumpDay(tank(0, 0, 60), 10, []int{100}, []int{60}), 0, 58, 100, true}, {pumpDay(tank(0, 0, 60), 10, []int{100}, []int{60}), 0, 50, 100, true}, {pumpDay(tank(0, 0, 60), 10, []int{100}, []int{60}), 0, 49, 0, false},
		{pumpDay(tank(4, 0, 8), 0, []int{9}, []int{1}), 0, 4, 0, false}, {pumpDay(tank(4, 0, 8), 0, []int{9}, []int{1}), 0, 5, 0, true},
	} {
		if got, ok := impl.ShadowPrice(k.p, k.hour, k.level); ok != k.ok || got != k.want {
			t.Errorf("ShadowPrice(%v, %d, %d) = %d, %v, want %d, %v", k.p, k.hour, k.level, got, ok, k.want, k.ok)
		}
	}
}

func TestShadowPricesInATrial(t *testing.T) {
	atMost, none, free, paid := 0, 0, 0, 0
	for i, p := range somePumpings() {
		if i%3 != 0 {
			continue
		}
		for hour := range len(p.Outs) + 1 {
			for _, level := range bordersOfLevels(p.Tank) {
				got, ok := impl.ShadowPrice(p, hour, level)
				here, isHere := wantedToGo(p, hour, level)
				if level == p.Tank.Most || !isHere {
					if ok || got != 0 {
						t.Fatalf("ShadowPrice(%v, %d, %d) = %d, %v", p, hour, level, got, ok)
					}
					if level == p.Tank.Most {
						atMost++
					} else {
						none++
					}
					continue
				}
				// What is pumped at a level is more than enough at a higher one, so it is there as well.
				above, isAbove := wantedToGo(p, hour, level+1)
				if !isAbove || !ok || got != here-above || got < 0 {
					t.Fatalf("ShadowPrice(%v, %d, %d) = %d, %v, want %d - %d, %v", p, hour, level, got, ok, here, above, isAbove)
				}
				if got > 0 {
					paid++
				} else {
					free++
				}
			}
		}
	}
	if min(atMost, none, free, paid) < 1000 {
		t.Error("too few of some kind:", atMost, none, free, paid)
	}
}

// costTable returns the costs to go of all hours and levels, -1 where there is none.
func costTable(p impl.Pumping) [impl.MaxHours + 1][impl.MaxLevel + 1]int {
	var table [impl.MaxHours + 1][impl.MaxLevel + 1]int
	for hour := range len(p.Outs) + 1 {
		for level := p.Tank.Least; level <= p.Tank.Most; level++ {
			cost, ok := impl.CostToGo(p, hour, level)
			if !ok {
				cost = -1
			}
			table[hour][level] = cost
		}
	}
	return table
}

// leastStep returns the smallest cost from an hour on that the costs of the next hour lead to, -1
// if there is none.
func leastStep(p impl.Pumping, hour int, level int, next [impl.MaxLevel + 1]int) int {
	least := -1
	for volume := range p.Pump + 1 {
		after, spilled, missing := stepDrops(at(p.Tank, level), volume, p.Outs[hour])
		if spilled > 0 || missing > 0 || next[after] < 0 {
			continue
		}
		if cost := volume*p.Prices[hour] + next[after]; least < 0 || cost < least {
			least = cost
		}
	}
	return least
}

func TestCostsToGoProveTheCheapestHourByHour(t *testing.T) {
	none, paid := 0, 0
	for i, p := range longPumpings() {
		if i%8 != 0 {
			continue
		}
		table, hours := costTable(p), len(p.Outs)
		for level := p.Tank.Least; level <= p.Tank.Most; level++ {
			if is := table[hours][level] == 0; is != (level >= p.Tank.Level) {
				t.Fatalf("CostToGo(%v, %d, %d) = %d", p, hours, level, table[hours][level])
			}
			for hour := range hours {
				want := leastStep(p, hour, level, table[hour+1])
				if table[hour][level] != want {
					t.Fatalf("CostToGo(%v, %d, %d) = %d, want %d", p, hour, level, table[hour][level], want)
				}
				if want < 0 {
					none++
				} else if want > 0 {
					paid++
				}
			}
		}
		if _, cost, ok := impl.CheapestSchedule(p); ok != (table[0][p.Tank.Level] >= 0) || ok && cost != table[0][p.Tank.Level] {
			t.Fatalf("CheapestSchedule(%v) costs %d, %v, but CostToGo is %d", p, cost, ok, table[0][p.Tank.Level])
		}
	}
	if min(none, paid) < 1000 {
		t.Error("too few of some kind:", none, paid)
	}
}

func TestShadowPricesOfLongDaysNeverRiseWithTheLevel(t *testing.T) {
	falls := 0
	for i, p := range longPumpings() {
		if i%16 != 1 {
			continue
		}
		table := costTable(p)
		for hour := range len(p.Outs) + 1 {
			before := 100
			for level := p.Tank.Least; level <= p.Tank.Most; level++ {
				got, ok := impl.ShadowPrice(p, hour, level)
				if table[hour][level] < 0 || level == p.Tank.Most {
					if ok || got != 0 {
						t.Fatalf("ShadowPrice(%v, %d, %d) = %d, %v", p, hour, level, got, ok)
					}
					continue
				}
				// Halfway between the volumes for two levels are some for the level between, so what one
				// unit more saves never grows.
				if !ok || got != table[hour][level]-table[hour][level+1] || got < 0 || got > before {
					t.Fatalf("ShadowPrice(%v, %d, %d) = %d, %v after %d", p, hour, level, got, ok, before)
				}
				if got < before {
					falls++
				}
				before = got
			}
		}
	}
	if falls < 100 {
		t.Error("too few fall:", falls)
	}
}

func TestCostsToGoDependOnTheLevelOfTheTankInTheEndOnly(t *testing.T) {
	for i, p := range longPumpings() {
		if i%4 != 0 {
			continue
		}
		// With the Tank at Least, any end will do, and from there each day costs least.
		low := copyOf(p)
		low.Tank.Level = low.Tank.Least
		for _, hour := range []int{0, 1, len(p.Outs) - 1, len(p.Outs)} {
			for _, level := range bordersOfLevels(p.Tank) {
				cost, ok := impl.CostToGo(p, hour, level)
				atLeast, okLeast := impl.CostToGo(low, hour, level)
				if ok && !okLeast || ok && cost < atLeast {
					t.Fatalf("CostToGo(%v, %d, %d) = %d, but %d, %v at Least", p, hour, level, cost, atLeast, okLeast)
				}
			}
		}
	}
}

// checkNoSchedule checks that the functions of a Pumping and a schedule return zero values.
func checkNoSchedule(t *testing.T, p impl.Pumping, schedule []int) {
	t.Helper()
	if impl.IsGoodSchedule(p, schedule) {
		t.Errorf("IsGoodSchedule(%v, %v)", p, schedule)
	}
	if cost, ok := impl.ScheduleCost(p, schedule); ok || cost != 0 {
		t.Errorf("ScheduleCost(%v, %v) = %d, %v", p, schedule, cost, ok)
	}
}

// checkNothingToGo checks that there is no cost at an hour and a level.
func checkNothingToGo(t *testing.T, p impl.Pumping, hour int, level int) {
	t.Helper()
	if cost, ok := impl.CostToGo(p, hour, level); ok || cost != 0 {
		t.Errorf("CostToGo(%v, %d, %d) = %d, %v", p, hour, level, cost, ok)
	}
	if price, ok := impl.ShadowPrice(p, hour, level); ok || price != 0 {
		t.Errorf("ShadowPrice(%v, %d, %d) = %d, %v", p, hour, level, price, ok)
	}
}

func TestInvalidPumpingsYieldZeroValues(t *testing.T) {
	for _, p := range invalidPumpings() {
		checkDay(t, knownDay{p: p})
		hours := len(p.Outs)
		for _, schedule := range [][]int{nil, {}, {0}, {0, 1, 0}, {0, 0, 1}, allOf(0, hours), allOf(0, len(p.Prices)), firstOf(max(hours, 1), 1), allOf(p.Pump, min(hours, 13))} {
			checkNoSchedule(t, p, schedule)
		}
		for _, hour := range []int{0, 1, hours - 1, hours, hours + 1, len(p.Prices), -1} {
			for _, level := range []int{p.Tank.Level, p.Tank.Least, p.Tank.Most, p.Tank.Most - 1, 10, 0, 60, -1, 61} {
				checkNothingToGo(t, p, hour, level)
			}
		}
	}
}

func TestOtherHoursAndLevelsYieldZeroValues(t *testing.T) {
	for _, k := range knownDays() {
		hours := len(k.p.Outs)
		for _, hour := range []int{-1, hours + 1, hours + 2, -12, 13, 14, 1 << 32, -1 << 32, math.MinInt, math.MaxInt} {
			for level := -1; level <= 61; level++ {
				checkNothingToGo(t, k.p, hour, level)
			}
		}
		for hour := -1; hour <= 14; hour++ {
			for _, level := range []int{k.p.Tank.Least - 1, k.p.Tank.Most + 1, -2, 62, 100, 1 << 32, -1 << 32, math.MinInt, math.MaxInt} {
				checkNothingToGo(t, k.p, hour, level)
			}
		}
	}
}

// pumpingLists returns the lists that the functions of the chapter return.
func pumpingLists(p impl.Pumping) [][]int {
	cheapest, _, _ := impl.CheapestSchedule(p)
	eager, _ := impl.EagerSchedule(p)
	lazy, _ := impl.LazySchedule(p)
	return [][]int{cheapest, eager, lazy}
}

// callAllForPumping calls every function of the chapter and overwrites all memory of the results.
func callAllForPumping(p impl.Pumping, schedule []int) {
	for _, list := range pumpingLists(p) {
		all := list[:cap(list)]
		for i := range all {
			all[i] = -7
		}
	}
	impl.IsValidPumping(p)
	impl.IsGoodSchedule(p, schedule)
	impl.ScheduleCost(p, schedule)
	for _, hour := range []int{0, len(p.Outs) - 1, len(p.Outs), -1} {
		for _, level := range []int{p.Tank.Level, p.Tank.Least, p.Tank.Most, -1} {
			impl.CostToGo(p, hour, level)
			impl.ShadowPrice(p, hour, level)
		}
	}
}

// checkedPumpings returns some of all Pumpings, valid or not.
func checkedPumpings() []impl.Pumping {
	list := invalidPumpings()
	for i, p := range append(somePumpings(), longPumpings()...) {
		if i%7 == 0 {
			list = append(list, p)
		}
	}
	for _, k := range knownDays() {
		list = append(list, k.p)
	}
	return list
}

func TestPumpingFunctionsLeaveTheirArgumentsAlone(t *testing.T) {
	for _, p := range checkedPumpings() {
		prices, allPrices := roomBehind(p.Prices)
		outs, allOuts := roomBehind(p.Outs)
		schedule, allVolumes := roomBehind(wantedSchedule(p))
		pricesBefore, outsBefore, volumesBefore := slices.Clone(allPrices), slices.Clone(allOuts), slices.Clone(allVolumes)
		callAllForPumping(pumpDay(p.Tank, p.Pump, prices, outs), schedule)
		callAllForPumping(pumpDay(p.Tank, p.Pump, outs, outs), outs)
		callAllForPumping(pumpDay(p.Tank, p.Pump, prices, schedule), prices)
		if !slices.Equal(allPrices, pricesBefore) || !slices.Equal(allOuts, outsBefore) || !slices.Equal(allVolumes, volumesBefore) {
			t.Fatalf("an argument of %v is modified: %v, %v, %v", p, allPrices, allOuts, allVolumes)
		}
	}
}

// wantedSchedule returns the eager schedule of a Pumping, good or not, or none of an invalid one.
func wantedSchedule(p impl.Pumping) []int {
	if !impl.IsValidPumping(p) {
		return nil
	}
	return wantedEager(p)
}

func TestNothingBehindThePricesAndOutsIsRead(t *testing.T) {
	for i, p := range checkedPumpings() {
		prices, allPrices := roomBehind(p.Prices)
		outs, allOuts := roomBehind(p.Outs)
		schedule, allVolumes := roomBehind(wantedSchedule(p))
		before := pumpingLists(p)
		_, cost, _ := impl.CheapestSchedule(p)
		good := impl.IsGoodSchedule(p, wantedSchedule(p))
		sum, _ := impl.ScheduleCost(p, wantedSchedule(p))
		hour := i % (len(p.Outs) + 1)
		toGo, _ := impl.CostToGo(p, hour, p.Tank.Level)
		for _, behind := range []int{-1, 0, 1, 100} {
			for _, all := range [][]int{allPrices[len(prices):], allOuts[len(outs):], allVolumes[len(schedule):]} {
				for place := range all {
					all[place] = behind
				}
			}
			q := pumpDay(p.Tank, p.Pump, prices, outs)
			if got := pumpingLists(q); !slices.EqualFunc(got, before, slices.Equal[[]int]) {
				t.Fatalf("%v with %d behind it: %v, want %v", p, behind, got, before)
			}
			_, gotCost, _ := impl.CheapestSchedule(q)
			gotSum, _ := impl.ScheduleCost(q, schedule)
			gotToGo, _ := impl.CostToGo(q, hour, p.Tank.Level)
			if impl.IsValidPumping(q) != impl.IsValidPumping(p) || impl.IsGoodSchedule(q, schedule) != good || gotCost != cost || gotSum != sum || gotToGo != toGo {
				t.Fatalf("%v with %d behind it: %d, %d, %d, want %d, %d, %d", p, behind, gotCost, gotSum, gotToGo, cost, sum, toGo)
			}
		}
	}
}

func TestListsThatAreCutOffHaveAnHourLess(t *testing.T) {
	for _, k := range knownDays() {
		hours := len(k.p.Outs)
		if cut := pumpDay(k.p.Tank, k.p.Pump, k.p.Prices[:hours-1], k.p.Outs); impl.IsValidPumping(cut) {
			t.Error("valid:", cut)
		}
		if cut := pumpDay(k.p.Tank, k.p.Pump, k.p.Prices, k.p.Outs[:hours-1]); impl.IsValidPumping(cut) {
			t.Error("valid:", cut)
		}
		if len(k.cheapest) > 0 && (!impl.IsGoodSchedule(k.p, k.cheapest) || impl.IsGoodSchedule(k.p, k.cheapest[:hours-1])) {
			t.Error("not good:", k.p, k.cheapest)
		}
	}
}

func TestSchedulesShareNoMemory(t *testing.T) {
	// The eager schedules of the second day and the third one are what is taken out, all those of
	// the third one are its prices as well.
	list := []impl.Pumping{pumpDay(tank(4, 0, 4), 4, []int{1, 1}, []int{0, 0}), pumpDay(tank(0, 0, 60), 10, allOf(100, 12), allOf(10, 12)), pumpDay(tank(1, 1, 9), 3, []int{3, 3}, []int{3, 3})}
	for _, k := range knownDays() {
		if len(k.cheapest) > 0 {
			list = append(list, k.p)
		}
	}
	for _, p := range list {
		before := copyOf(p)
		first, again := pumpingLists(p), pumpingLists(p)
		var want [][]int
		for _, schedule := range first {
			want = append(want, slices.Clone(schedule))
		}
		// Each list in turn is overwritten, and neither the argument nor the others may follow.
		for i, schedule := range first {
			if len(schedule) != len(p.Outs) {
				t.Fatalf("the list %d of %v is %v", i, p, schedule)
			}
			all := schedule[:cap(schedule)]
			for place := range all {
				all[place] = -7
			}
			if !samePumping(p, before) || !slices.EqualFunc(again, want, slices.Equal[[]int]) || !slices.EqualFunc(first[i+1:], want[i+1:], slices.Equal[[]int]) {
				t.Fatalf("the list %d of %v shares memory: %v, %v, want %v", i, before, p, again, want)
			}
		}
		if third := pumpingLists(p); !slices.EqualFunc(third, want, slices.Equal[[]int]) {
			t.Errorf("something of %v is kept: %v, want %v", before, third, want)
		}
		for hour := range p.Outs {
			p.Prices[hour], p.Outs[hour] = -7, -7
		}
		if !slices.EqualFunc(again, want, slices.Equal[[]int]) {
			t.Errorf("the lists change with the argument: %v, want %v", again, want)
		}
	}
}
