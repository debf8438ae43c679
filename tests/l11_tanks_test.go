package tests

import (
	"math"
	"math/rand"
	"slices"
	"testing"

	"loop.example/g00853/impl"
)

// otherVolumes are numbers that are no volumes of an hour.
var otherVolumes = []int{-1, 101, -100, 102, 200, 1 << 32, -1 << 32, math.MinInt, math.MaxInt}

// otherDays are no numbers of days to repeat.
var otherDays = []int{-1, 21, -20, 22, 40, 1 << 32, -1 << 32, math.MinInt, math.MaxInt}

// tankDay is what the functions of a day get.
type tankDay struct {
	tank impl.Tank
	ins  []int
	outs []int
}

// ranDay is what happens in a day: first is the first hour that lacks something, -1 for none.
type ranDay struct {
	levels  []int
	spilled int
	missing int
	taken   int
	first   int
}

// tank returns a tank.
func tank(level int, least int, most int) impl.Tank {
	return impl.Tank{Level: level, Least: least, Most: most}
}

// at returns a tank with another level.
func at(t impl.Tank, level int) impl.Tank { return tank(level, t.Least, t.Most) }

// last returns the last number of a list.
func last(list []int) int { return list[len(list)-1] }

// stepDrops pours the volumes of an hour drop by drop, and returns the level, what is spilled and
// what is missing.
func stepDrops(t impl.Tank, in int, out int) (int, int, int) {
	level, spilled, missing := t.Level, 0, 0
	for range in {
		if level < t.Most {
			level++
		} else {
			spilled++
		}
	}
	for range out {
		if level > t.Least {
			level--
		} else {
			missing++
		}
	}
	return level, spilled, missing
}

// wantedDay returns what happens in a day, drop by drop.
func wantedDay(d tankDay) ranDay {
	ran, level := ranDay{first: -1}, d.tank.Level
	for hour := range d.ins {
		next, spilled, missing := stepDrops(at(d.tank, level), d.ins[hour], d.outs[hour])
		if missing > 0 && ran.first < 0 {
			ran.first = hour
		}
		ran.levels = append(ran.levels, next)
		ran.spilled += spilled
		ran.missing += missing
		ran.taken += d.outs[hour] - missing
		level = next
	}
	return ran
}

// wantedLevels returns all Levels with which a day suits, in ascending order.
func wantedLevels(d tankDay, suits func(level int, ran ranDay) bool) []int {
	var levels []int
	for level := d.tank.Least; level <= d.tank.Most; level++ {
		if suits(level, wantedDay(tankDay{at(d.tank, level), d.ins, d.outs})) {
			levels = append(levels, level)
		}
	}
	return levels
}

// wantedStarts returns all Levels with which nothing is missing in a day.
func wantedStarts(d tankDay) []int {
	return wantedLevels(d, func(level int, ran ranDay) bool { return ran.missing == 0 })
}

// wantedSteady returns all Levels that are the same after a day.
func wantedSteady(d tankDay) []int {
	return wantedLevels(d, func(level int, ran ranDay) bool { return last(ran.levels) == level })
}

// allTanks returns all valid tanks with a Most in a range.
func allTanks(from int, to int) []impl.Tank {
	var list []impl.Tank
	for most := from; most <= to; most++ {
		for least := 0; least <= most; least++ {
			for level := least; level <= most; level++ {
				list = append(list, tank(level, least, most))
			}
		}
	}
	return list
}

// volumeLists calls a function with all lists of a length with volumes in 0..most, in memory that
// is used again.
func volumeLists(length int, most int, call func(list []int)) {
	list := make([]int, length)
	var fill func(place int)
	fill = func(place int) {
		if place == length {
			call(list)
			return
		}
		for volume := 0; volume <= most; volume++ {
			list[place] = volume
			fill(place + 1)
		}
	}
	fill(0)
}

// smallDays calls a function with all days of one and of two hours with volumes of up to 4, of
// all tanks with a Most of up to 3, and with part of those of three hours.
func smallDays(call func(d tankDay)) {
	for i, t := range allTanks(0, 3) {
		for hours := 1; hours <= 3; hours++ {
			place := 0
			volumeLists(2*hours, 4, func(list []int) {
				place++
				if hours < 3 || place%23 == i {
					call(tankDay{t, slices.Clone(list[:hours]), slices.Clone(list[hours:])})
				}
			})
		}
	}
}

// drawnTank returns a tank of one of several kinds.
func drawnTank(r *rand.Rand) impl.Tank {
	least := []int{0, 0, 1, 60, r.Intn(61), r.Intn(61)}[r.Intn(6)]
	most := []int{least, 60, min(least+1+r.Intn(5), 60), least + r.Intn(61-least), least + r.Intn(61-least)}[r.Intn(5)]
	return tank([]int{least, most, least + r.Intn(most-least+1)}[r.Intn(3)], least, most)
}

// drawnVolumes returns volumes of hours, of which some are 0 and some are MaxHourly.
func drawnVolumes(r *rand.Rand, hours int, most int) []int {
	list := make([]int, hours)
	for i := range list {
		list[i] = r.Intn(most + 1)
		switch r.Intn(15) {
		case 0, 1, 2:
			list[i] = 0
		case 3:
			list[i] = 100
		}
	}
	return list
}

// drawnDay returns a day of one of several kinds: of any volumes, with as much taken out as flows
// in, in any order or just before it does, with less taken out, or with what empties a full tank.
func drawnDay(r *rand.Rand) tankDay {
	hours := []int{1, 2, 12, 1 + r.Intn(12), 1 + r.Intn(12)}[r.Intn(5)]
	most := []int{1, 3, 10, 30, 100}[r.Intn(5)]
	d := tankDay{drawnTank(r), drawnVolumes(r, hours, most), drawnVolumes(r, hours, most)}
	switch r.Intn(8) {
	case 0, 1:
		for i, place := range r.Perm(hours) {
			d.outs[place] = d.ins[i]
		}
	case 2:
		for i := range hours {
			d.outs[i] = d.ins[(i+1)%hours]
		}
	case 3:
		d.outs = drawnVolumes(r, hours, max(most/4, 1))
	case 4:
		d.ins, d.outs = make([]int, hours), drops(r, hours, d.tank.Most-d.tank.Least)
	}
	return d
}

// someDays returns days of all kinds: known ones, small ones and drawn ones.
func someDays() []tankDay {
	list := []tankDay{longDay(), flood(), drought(), storm()}
	smallDays(func(d tankDay) { list = append(list, d) })
	r := rand.New(rand.NewSource(11))
	for range 20000 {
		list = append(list, drawnDay(r))
	}
	return list
}

// longDay has MaxHours hours.
func longDay() tankDay {
	return tankDay{tank(30, 10, 50), []int{5, 5, 0, 0, 0, 20, 20, 0, 0, 0, 0, 40}, []int{0, 10, 10, 15, 0, 0, 0, 50, 1, 2, 0, 3}}
}

// flood has MaxHourly flow in, in every hour.
func flood() tankDay { return tankDay{tank(0, 0, 60), slices.Repeat([]int{100}, 12), make([]int, 12)} }

// drought has MaxHourly to be taken out, in every hour.
func drought() tankDay {
	return tankDay{tank(60, 0, 60), make([]int, 12), slices.Repeat([]int{100}, 12)}
}

// storm has both in every hour.
func storm() tankDay {
	return tankDay{tank(7, 0, 60), slices.Repeat([]int{100}, 12), slices.Repeat([]int{100}, 12)}
}

func TestTheLimitsOfTanks(t *testing.T) {
	if impl.MaxLevel != 60 || impl.MaxHours != 12 || impl.MaxHourly != 100 {
		t.Error("the limits are", impl.MaxLevel, impl.MaxHours, impl.MaxHourly)
	}
}

// invalidTanks returns tanks that are not valid.
func invalidTanks() []impl.Tank {
	return []impl.Tank{
		tank(21, 5, 20), tank(4, 5, 20), tank(5, 5, 4), tank(4, 5, 4), tank(-1, -1, 20), tank(5, -1, 20), tank(-1, 0, 20), tank(0, 0, -1), tank(0, 1, 0),
		tank(60, 0, 61), tank(61, 0, 61), tank(61, 61, 61), tank(61, 0, 60), tank(-1, -1, -1), tank(-5, -10, -2), tank(10, 20, 5), tank(1, 0, 0), tank(59, 60, 60),
		tank(0, math.MinInt, math.MaxInt), tank(math.MinInt, math.MinInt, math.MinInt), tank(math.MaxInt, math.MaxInt, math.MaxInt), tank(math.MaxInt, 0, 60),
		tank(math.MinInt, 0, 60), tank(30, math.MinInt, 60), tank(30, 0, math.MaxInt), tank(30, math.MaxInt, math.MinInt), tank(1<<32, 1<<32, 1<<32), tank(1<<32+5, 5, 20),
	}
}

func TestValidTanks(t *testing.T) {
	for _, k := range []impl.Tank{{}, tank(0, 0, 60), tank(60, 0, 60), tank(60, 60, 60), tank(5, 5, 20), tank(20, 5, 20), tank(10, 5, 20), tank(7, 7, 7)} {
		if !impl.IsValidTank(k) {
			t.Error("not valid:", k)
		}
	}
	for _, k := range invalidTanks() {
		if impl.IsValidTank(k) {
			t.Error("valid:", k)
		}
	}
	valid := 0
	for least := -3; least <= 63; least++ {
		for level := -3; level <= 63; level++ {
			for most := -3; most <= 63; most++ {
				want := least >= 0 && most <= 60 && level >= least && level <= most
				if got := impl.IsValidTank(tank(level, least, most)); got != want {
					t.Fatalf("IsValidTank(%v) = %v", tank(level, least, most), got)
				}
				if want {
					valid++
				}
			}
		}
	}
	if valid != len(allTanks(0, 60)) {
		t.Error("valid tanks:", valid)
	}
}

func TestKnownHours(t *testing.T) {
	for _, k := range []struct {
		tank                             impl.Tank
		in, out, level, spilled, missing int
	}{
		{tank(10, 5, 20), 15, 3, 17, 5, 0}, {tank(10, 5, 20), 0, 8, 5, 0, 3}, {tank(10, 5, 20), 0, 0, 10, 0, 0}, {tank(10, 5, 20), 3, 4, 9, 0, 0},
		// At the ends, met exactly and exceeded by one.
		{tank(10, 5, 20), 10, 0, 20, 0, 0}, {tank(10, 5, 20), 11, 0, 20, 1, 0}, {tank(10, 5, 20), 0, 5, 5, 0, 0}, {tank(10, 5, 20), 0, 6, 5, 0, 1},
		{tank(20, 5, 20), 0, 0, 20, 0, 0}, {tank(20, 5, 20), 1, 0, 20, 1, 0}, {tank(20, 5, 20), 1, 1, 19, 1, 0}, {tank(20, 5, 20), 0, 15, 5, 0, 0}, {tank(20, 5, 20), 0, 16, 5, 0, 1},
		{tank(5, 5, 20), 0, 0, 5, 0, 0}, {tank(5, 5, 20), 0, 1, 5, 0, 1}, {tank(5, 5, 20), 1, 1, 5, 0, 0}, {tank(5, 5, 20), 1, 2, 5, 0, 1}, {tank(5, 5, 20), 15, 0, 20, 0, 0}, {tank(5, 5, 20), 16, 0, 20, 1, 0},
		// What flows in comes first: it is there to be taken out, and spills before there is room.
		{tank(5, 5, 20), 10, 10, 5, 0, 0}, {tank(20, 5, 20), 10, 10, 10, 10, 0}, {tank(18, 5, 20), 7, 4, 16, 5, 0}, {tank(7, 5, 20), 3, 9, 5, 0, 4},
		// Both in one hour: more flows in than there is room for, more is wanted than there is in all.
		{tank(10, 5, 20), 11, 16, 5, 1, 1}, {tank(10, 5, 20), 100, 100, 5, 90, 85}, {tank(20, 5, 20), 3, 18, 5, 3, 3}, {tank(10, 5, 20), 11, 15, 5, 1, 0}, {tank(10, 5, 20), 10, 16, 5, 0, 1},
		// Least = Most, Least 0 and Most MaxLevel.
		{tank(7, 7, 7), 0, 0, 7, 0, 0}, {tank(7, 7, 7), 4, 0, 7, 4, 0}, {tank(7, 7, 7), 0, 9, 7, 0, 9}, {tank(7, 7, 7), 4, 9, 7, 4, 9}, {tank(7, 7, 7), 100, 100, 7, 100, 100},
		{tank(0, 0, 0), 1, 1, 0, 1, 1}, {tank(0, 0, 0), 0, 0, 0, 0, 0}, {tank(60, 60, 60), 1, 2, 60, 1, 2}, {tank(60, 60, 60), 100, 0, 60, 100, 0},
		{tank(0, 0, 60), 60, 0, 60, 0, 0}, {tank(0, 0, 60), 61, 0, 60, 1, 0}, {tank(0, 0, 60), 100, 0, 60, 40, 0}, {tank(0, 0, 60), 0, 100, 0, 0, 100}, {tank(0, 0, 60), 100, 100, 0, 40, 40},
		{tank(60, 0, 60), 0, 60, 0, 0, 0}, {tank(60, 0, 60), 0, 61, 0, 0, 1}, {tank(60, 0, 60), 0, 100, 0, 0, 40}, {tank(60, 0, 60), 100, 0, 60, 100, 0}, {tank(60, 0, 60), 100, 100, 0, 100, 40},
		{tank(1, 0, 60), 0, 1, 0, 0, 0}, {tank(59, 0, 60), 1, 0, 60, 0, 0}, {tank(30, 0, 60), 31, 61, 0, 1, 1},
	} {
		got, spilled, missing, ok := impl.StepTank(k.tank, k.in, k.out)
		if !ok || got != at(k.tank, k.level) || spilled != k.spilled || missing != k.missing {
			t.Errorf("StepTank(%v, %d, %d) = %v, %d, %d, %v, want %d, %d, %d", k.tank, k.in, k.out, got, spilled, missing, ok, k.level, k.spilled, k.missing)
		}
	}
}

// checkHour checks an hour against its drops, and returns whether it spills and whether it lacks.
func checkHour(t *testing.T, k impl.Tank, in int, out int) (bool, bool) {
	t.Helper()
	level, spilled, missing := stepDrops(k, in, out)
	got, gotSpilled, gotMissing, ok := impl.StepTank(k, in, out)
	if !ok || got != at(k, level) || gotSpilled != spilled || gotMissing != missing {
		t.Fatalf("StepTank(%v, %d, %d) = %v, %d, %d, %v, want %d, %d, %d", k, in, out, got, gotSpilled, gotMissing, ok, level, spilled, missing)
	}
	// The guarantee, for an hour.
	if got.Level != k.Level+in-gotSpilled-(out-gotMissing) {
		t.Fatalf("StepTank(%v, %d, %d) = %v, %d, %d does not add up", k, in, out, got, gotSpilled, gotMissing)
	}
	return spilled > 0, missing > 0
}

func TestHoursFollowEachDrop(t *testing.T) {
	calm, spills, lacks, both := 0, 0, 0, 0
	check := func(k impl.Tank, in int, out int) {
		switch spilled, missing := checkHour(t, k, in, out); {
		case spilled && missing:
			both++
		case spilled:
			spills++
		case missing:
			lacks++
		default:
			calm++
		}
	}
	for _, k := range append(allTanks(0, 3), tank(0, 0, 60), tank(60, 0, 60), tank(30, 0, 60), tank(60, 60, 60), tank(10, 5, 20)) {
		volumeLists(2, 100, func(list []int) { check(k, list[0], list[1]) })
	}
	for _, k := range allTanks(0, 60) {
		room, stock, whole := k.Most-k.Level, k.Level-k.Least, k.Most-k.Least
		for _, in := range []int{0, 1, max(room-1, 0), room, room + 1, 100} {
			for _, out := range []int{0, 1, stock + min(in, room), stock + min(in, room) + 1, max(whole-1, 0), whole + 1, 100} {
				check(k, in, out)
			}
		}
	}
	if min(calm, spills, lacks, both) < 10000 {
		t.Error("too few of some kind:", calm, spills, lacks, both)
	}
}

func TestKnownDays(t *testing.T) {
	for _, k := range []struct {
		d       tankDay
		levels  []int
		spilled int
		missing int
	}{
		{tankDay{tank(10, 5, 20), []int{0, 6, 2}, []int{4, 0, 9}}, []int{6, 12, 5}, 0, 0},
		{tankDay{tank(5, 5, 20), []int{0, 6, 2}, []int{4, 0, 9}}, []int{5, 11, 5}, 0, 5},
		{tankDay{tank(20, 5, 20), []int{0, 6, 2}, []int{4, 0, 9}}, []int{16, 20, 11}, 4, 0},
		{tankDay{tank(20, 5, 20), []int{3, 0, 30}, []int{0, 20, 4}}, []int{20, 5, 16}, 18, 5},
		{tankDay{tank(10, 5, 20), []int{11}, []int{16}}, []int{5}, 1, 1}, {tankDay{tank(7, 7, 7), []int{1, 2}, []int{3, 5}}, []int{7, 7}, 3, 8},
		{tankDay{tank(0, 0, 0), []int{0}, []int{0}}, []int{0}, 0, 0}, {tankDay{tank(33, 0, 60), []int{0}, []int{0}}, []int{33}, 0, 0},
		{longDay(), []int{35, 30, 20, 10, 10, 30, 50, 10, 10, 10, 10, 47}, 0, 18},
		{flood(), slices.Repeat([]int{60}, 12), 1140, 0}, {drought(), make([]int, 12), 0, 1140}, {storm(), make([]int, 12), 487, 480},
		{tankDay{tank(60, 0, 60), slices.Repeat([]int{100}, 12), slices.Repeat([]int{60}, 12)}, make([]int, 12), 540, 0},
		{tankDay{tank(60, 60, 60), slices.Repeat([]int{100}, 12), slices.Repeat([]int{100}, 12)}, slices.Repeat([]int{60}, 12), 1200, 1200},
	} {
		if levels, spilled, missing, ok := impl.RunTank(k.d.tank, k.d.ins, k.d.outs); !ok || !slices.Equal(levels, k.levels) || spilled != k.spilled || missing != k.missing {
			t.Errorf("RunTank(%v) = %v, %d, %d, %v, want %v, %d, %d", k.d, levels, spilled, missing, ok, k.levels, k.spilled, k.missing)
		}
	}
}

func TestDaysFollowEachDrop(t *testing.T) {
	calm, spills, lacks, both := 0, 0, 0, 0
	for _, d := range someDays() {
		want := wantedDay(d)
		levels, spilled, missing, ok := impl.RunTank(d.tank, d.ins, d.outs)
		if !ok || !slices.Equal(levels, want.levels) || spilled != want.spilled || missing != want.missing {
			t.Fatalf("RunTank(%v) = %v, %d, %d, %v, want %v", d, levels, spilled, missing, ok, want)
		}
		if taken, ok := impl.WaterTaken(d.tank, d.ins, d.outs); !ok || taken != want.taken {
			t.Fatalf("WaterTaken(%v) = %d, %v, want %d", d, taken, ok, want.taken)
		}
		if is, ok := impl.IsCalm(d.tank, d.ins, d.outs); !ok || is != (want.spilled == 0 && want.missing == 0) {
			t.Fatalf("IsCalm(%v) = %v, %v, want %v", d, is, ok, want)
		}
		switch {
		case want.spilled > 0 && want.missing > 0:
			both++
		case want.spilled > 0:
			spills++
		case want.missing > 0:
			lacks++
		default:
			calm++
		}
	}
	if min(calm, spills, lacks, both) < 1000 {
		t.Error("too few of some kind:", calm, spills, lacks, both)
	}
}

func TestLevelAfterADayFollowsFromItsWater(t *testing.T) {
	rises, falls, stays := 0, 0, 0
	for _, d := range someDays() {
		levels, spilled, missing, ok := impl.RunTank(d.tank, d.ins, d.outs)
		taken, okTaken := impl.WaterTaken(d.tank, d.ins, d.outs)
		if !ok || !okTaken || len(levels) != len(d.ins) || taken != total(d.outs)-missing || spilled < 0 || missing < 0 || taken < 0 {
			t.Fatalf("RunTank(%v) = %v, %d, %d, %v, WaterTaken = %d, %v", d, levels, spilled, missing, ok, taken, okTaken)
		}
		after := last(levels)
		if after != d.tank.Level+total(d.ins)-spilled-taken {
			t.Fatalf("after %v the level is %d, but %d is spilled and %d is taken out", d, after, spilled, taken)
		}
		if slices.Min(levels) < d.tank.Least || slices.Max(levels) > d.tank.Most {
			t.Fatalf("the levels %v of %v leave the tank", levels, d)
		}
		checkHoursOfDay(t, d, levels, spilled, missing)
		switch {
		case after > d.tank.Level:
			rises++
		case after < d.tank.Level:
			falls++
		default:
			stays++
		}
	}
	if min(rises, falls, stays) < 1000 {
		t.Error("too few of some kind:", rises, falls, stays)
	}
}

// checkHoursOfDay checks that a day is its hours one after the other, each with its own balance.
func checkHoursOfDay(t *testing.T, d tankDay, levels []int, spilled int, missing int) {
	t.Helper()
	k := d.tank
	for hour, in := range d.ins {
		next, over, short, ok := impl.StepTank(k, in, d.outs[hour])
		if !ok || next != at(d.tank, levels[hour]) || next.Level != k.Level+in-over-d.outs[hour]+short {
			t.Fatalf("hour %d of %v leads from %v to %v, %d, %d, %v, but the level is %d", hour, d, k, next, over, short, ok, levels[hour])
		}
		spilled, missing, k = spilled-over, missing-short, next
	}
	if spilled != 0 || missing != 0 {
		t.Fatalf("the hours of %v spill %d less and lack %d less than the day", d, spilled, missing)
	}
}

func TestDaysMayBeCutInTwo(t *testing.T) {
	r := rand.New(rand.NewSource(112))
	for range 5000 {
		d := drawnDay(r)
		levels, spilled, missing, _ := impl.RunTank(d.tank, d.ins, d.outs)
		for cut := 1; cut < len(d.ins); cut++ {
			first, over, short, ok := impl.RunTank(d.tank, d.ins[:cut], d.outs[:cut])
			if !ok || len(first) != cut {
				t.Fatalf("RunTank(%v) up to %d = %v, %v", d, cut, first, ok)
			}
			second, moreOver, moreShort, ok := impl.RunTank(at(d.tank, last(first)), d.ins[cut:], d.outs[cut:])
			if !ok || !slices.Equal(slices.Concat(first, second), levels) || over+moreOver != spilled || short+moreShort != missing {
				t.Fatalf("RunTank(%v) = %v, %d, %d, but cut at %d %v, %v, %d, %d", d, levels, spilled, missing, cut, first, second, over+moreOver, short+moreShort)
			}
		}
	}
}

func TestKnownCalmDays(t *testing.T) {
	for _, k := range []struct {
		d    tankDay
		want bool
	}{
		{tankDay{tank(10, 5, 20), []int{0, 6, 2}, []int{4, 0, 9}}, true}, {tankDay{tank(9, 5, 20), []int{0, 6, 2}, []int{4, 0, 9}}, false},
		{tankDay{tank(16, 5, 20), []int{0, 6, 2}, []int{4, 0, 9}}, true}, {tankDay{tank(17, 5, 20), []int{0, 6, 2}, []int{4, 0, 9}}, false},
		{tankDay{tank(10, 5, 20), []int{10}, []int{15}}, true}, {tankDay{tank(10, 5, 20), []int{11}, []int{15}}, false}, {tankDay{tank(10, 5, 20), []int{10}, []int{16}}, false}, {tankDay{tank(10, 5, 20), []int{11}, []int{16}}, false},
		{tankDay{tank(7, 7, 7), []int{0, 0}, []int{0, 0}}, true}, {tankDay{tank(7, 7, 7), []int{0, 1}, []int{0, 0}}, false}, {tankDay{tank(7, 7, 7), []int{0, 0}, []int{0, 1}}, false}, {tankDay{tank(7, 7, 7), []int{1, 0}, []int{1, 0}}, false},
		{tankDay{tank(0, 0, 60), slices.Repeat([]int{5}, 12), make([]int, 12)}, true}, {tankDay{tank(60, 0, 60), make([]int, 12), slices.Repeat([]int{5}, 12)}, true},
		{tankDay{tank(1, 0, 60), slices.Repeat([]int{5}, 12), make([]int, 12)}, false}, {tankDay{tank(59, 0, 60), make([]int, 12), slices.Repeat([]int{5}, 12)}, false},
		{longDay(), false}, {flood(), false}, {drought(), false}, {storm(), false},
	} {
		if got, ok := impl.IsCalm(k.d.tank, k.d.ins, k.d.outs); !ok || got != k.want {
			t.Errorf("IsCalm(%v) = %v, %v", k.d, got, ok)
		}
	}
}

func TestKnownWaterTaken(t *testing.T) {
	for _, k := range []struct {
		d    tankDay
		want int
	}{
		{tankDay{tank(5, 5, 20), []int{0, 6, 2}, []int{4, 0, 9}}, 8}, {tankDay{tank(10, 5, 20), []int{0, 6, 2}, []int{4, 0, 9}}, 13}, {tankDay{tank(9, 5, 20), []int{0, 6, 2}, []int{4, 0, 9}}, 12},
		{tankDay{tank(10, 5, 20), []int{11}, []int{16}}, 15}, {tankDay{tank(7, 7, 7), []int{5, 5}, []int{9, 9}}, 0}, {tankDay{tank(7, 0, 7), []int{5, 5}, []int{9, 9}}, 12}, {tankDay{tank(60, 0, 60), []int{0}, []int{0}}, 0},
		{longDay(), 73}, {flood(), 0}, {drought(), 60}, {storm(), 720},
	} {
		if got, ok := impl.WaterTaken(k.d.tank, k.d.ins, k.d.outs); !ok || got != k.want {
			t.Errorf("WaterTaken(%v) = %d, %v, want %d", k.d, got, ok, k.want)
		}
	}
}

func TestKnownFirstMissing(t *testing.T) {
	twelve := func(place int, out int) tankDay {
		outs := make([]int, 12)
		outs[place] = out
		return tankDay{tank(30, 0, 60), make([]int, 12), outs}
	}
	for _, k := range []struct {
		d    tankDay
		want int
		ok   bool
	}{
		{tankDay{tank(5, 5, 20), []int{0, 6, 2}, []int{4, 0, 9}}, 0, true}, {tankDay{tank(9, 5, 20), []int{0, 6, 2}, []int{4, 0, 9}}, 2, true}, {tankDay{tank(10, 5, 20), []int{0, 6, 2}, []int{4, 0, 9}}, 0, false},
		{twelve(0, 31), 0, true}, {twelve(0, 30), 0, false}, {twelve(11, 31), 11, true}, {twelve(11, 30), 0, false}, {twelve(5, 31), 5, true}, {twelve(5, 100), 5, true},
		{tankDay{tank(7, 7, 7), []int{0}, []int{0}}, 0, false}, {tankDay{tank(7, 7, 7), []int{100}, []int{1}}, 0, true}, {tankDay{tank(7, 7, 7), []int{100, 0}, []int{0, 1}}, 1, true},
		{tankDay{tank(0, 0, 60), []int{3, 0, 0, 0}, []int{2, 1, 1, 1}}, 2, true}, {tankDay{tank(0, 0, 60), []int{3, 0, 0, 0}, []int{0, 1, 2, 1}}, 3, true}, {tankDay{tank(0, 0, 60), []int{3, 0, 0, 1}, []int{0, 1, 2, 1}}, 0, false},
		{longDay(), 3, true}, {flood(), 0, false}, {drought(), 0, true}, {storm(), 0, true}, {tankDay{tank(60, 0, 60), []int{0, 0}, []int{60, 60}}, 1, true},
	} {
		if got, ok := impl.FirstMissing(k.d.tank, k.d.ins, k.d.outs); ok != k.ok || got != k.want {
			t.Errorf("FirstMissing(%v) = %d, %v, want %d, %v", k.d, got, ok, k.want, k.ok)
		}
	}
}

func TestFirstMissingFollowsEachDrop(t *testing.T) {
	none, start, between, end := 0, 0, 0, 0
	for _, d := range someDays() {
		want := wantedDay(d).first
		got, ok := impl.FirstMissing(d.tank, d.ins, d.outs)
		if ok != (want >= 0) || got != max(want, 0) {
			t.Fatalf("FirstMissing(%v) = %d, %v, want %d", d, got, ok, want)
		}
		if ok {
			// Up to this hour the day lacks nothing, with it something.
			if got > 0 {
				if _, _, missing, _ := impl.RunTank(d.tank, d.ins[:got], d.outs[:got]); missing != 0 {
					t.Fatalf("FirstMissing(%v) = %d, but %d is missing before", d, got, missing)
				}
			}
			if _, _, missing, _ := impl.RunTank(d.tank, d.ins[:got+1], d.outs[:got+1]); missing == 0 {
				t.Fatalf("FirstMissing(%v) = %d, but nothing is missing then", d, got)
			}
		}
		switch {
		case !ok:
			none++
		case got == 0:
			start++
		case got == len(d.ins)-1:
			end++
		default:
			between++
		}
	}
	if min(none, start, between, end) < 1000 {
		t.Error("too few of some kind:", none, start, between, end)
	}
}

func TestKnownLeastStarts(t *testing.T) {
	for _, k := range []struct {
		d    tankDay
		want int
		ok   bool
	}{
		{tankDay{tank(10, 5, 20), []int{0, 6, 2}, []int{4, 0, 9}}, 10, true}, {tankDay{tank(5, 5, 20), []int{0, 6, 2}, []int{4, 0, 9}}, 10, true}, {tankDay{tank(20, 5, 20), []int{0, 6, 2}, []int{4, 0, 9}}, 10, true},
		// At Least, at Most, and none.
		{tankDay{tank(20, 5, 20), []int{4, 3}, []int{4, 3}}, 5, true}, {tankDay{tank(20, 5, 20), []int{0, 0}, []int{0, 0}}, 5, true}, {tankDay{tank(9, 5, 20), []int{0, 0}, []int{7, 8}}, 20, true}, {tankDay{tank(20, 5, 20), []int{0, 0}, []int{7, 9}}, 0, false},
		{tankDay{tank(5, 5, 20), []int{0}, []int{15}}, 20, true}, {tankDay{tank(5, 5, 20), []int{0}, []int{16}}, 0, false}, {tankDay{tank(5, 5, 20), []int{1}, []int{15}}, 19, true}, {tankDay{tank(5, 5, 20), []int{15}, []int{15}}, 5, true},
		{tankDay{tank(5, 5, 20), []int{100}, []int{16}}, 0, false}, {tankDay{tank(5, 5, 20), []int{100}, []int{15}}, 5, true}, {tankDay{tank(5, 5, 20), []int{99, 0}, []int{1, 15}}, 0, false}, {tankDay{tank(5, 5, 20), []int{99, 0}, []int{1, 14}}, 5, true},
		{tankDay{tank(7, 7, 7), []int{0}, []int{0}}, 7, true}, {tankDay{tank(7, 7, 7), []int{9}, []int{1}}, 0, false}, {tankDay{tank(0, 0, 0), []int{9}, []int{0}}, 0, true},
		{tankDay{tank(0, 0, 60), make([]int, 12), slices.Repeat([]int{5}, 12)}, 60, true}, {tankDay{tank(60, 0, 60), make([]int, 12), make([]int, 12)}, 0, true}, {tankDay{tank(0, 0, 60), []int{0, 100}, []int{17, 60}}, 17, true},
		{tankDay{tank(30, 10, 60), longDay().ins, []int{0, 10, 10, 5, 0, 0, 0, 40, 1, 2, 0, 3}}, 28, true}, {longDay(), 0, false}, {flood(), 0, true}, {drought(), 0, false}, {storm(), 0, false},
	} {
		if got, ok := impl.LeastStart(k.d.tank, k.d.ins, k.d.outs); ok != k.ok || got != k.want {
			t.Errorf("LeastStart(%v) = %d, %v, want %d, %v", k.d, got, ok, k.want, k.ok)
		}
	}
}

func TestLeastStartsAreTheSmallestThatLackNothing(t *testing.T) {
	none, least, between, most := 0, 0, 0, 0
	for _, d := range someDays() {
		starts := wantedStarts(d)
		got, ok := impl.LeastStart(d.tank, d.ins, d.outs)
		if len(starts) == 0 {
			if ok || got != 0 {
				t.Fatalf("LeastStart(%v) = %d, %v, want none", d, got, ok)
			}
			none++
			continue
		}
		if !ok || got != starts[0] {
			t.Fatalf("LeastStart(%v) = %d, %v, want %d", d, got, ok, starts[0])
		}
		// With more water nothing is missing either.
		if len(starts) != d.tank.Most-got+1 {
			t.Fatalf("LeastStart(%v) = %d, but the starts are %v", d, got, starts)
		}
		switch {
		case d.tank.Least == d.tank.Most:
		case got == d.tank.Least:
			least++
		case got == d.tank.Most:
			most++
		default:
			between++
		}
	}
	if min(none, least, between, most) < 1000 {
		t.Error("too few of some kind:", none, least, between, most)
	}
}

func TestKnownRepeatedDays(t *testing.T) {
	short := tankDay{tank(10, 5, 20), []int{0, 6, 2}, []int{4, 0, 9}}
	drip, draw := tankDay{tank(12, 5, 60), []int{3}, []int{1}}, tankDay{tank(50, 5, 60), []int{0, 1}, []int{3, 0}}
	for _, k := range []struct {
		d    tankDay
		days int
		want int
	}{
		{short, 0, 10}, {short, 1, 5}, {short, 2, 5}, {short, 20, 5}, {drip, 0, 12}, {drip, 1, 14}, {drip, 2, 16}, {drip, 19, 50}, {drip, 20, 52},
		{draw, 0, 50}, {draw, 1, 48}, {draw, 19, 12}, {draw, 20, 10}, {tankDay{tank(20, 5, 20), drip.ins, drip.outs}, 0, 20}, {tankDay{tank(20, 5, 20), drip.ins, drip.outs}, 1, 19},
		{tankDay{tank(20, 5, 20), drip.ins, drip.outs}, 20, 19}, {tankDay{tank(5, 5, 20), []int{0}, []int{0}}, 20, 5}, {tankDay{tank(7, 7, 7), []int{3}, []int{50}}, 20, 7},
		{longDay(), 0, 30}, {longDay(), 1, 47}, {longDay(), 20, 47}, {flood(), 0, 0}, {flood(), 1, 60}, {drought(), 0, 60}, {drought(), 20, 0}, {storm(), 0, 7}, {storm(), 20, 0},
	} {
		if got, ok := impl.RepeatDay(k.d.tank, k.d.ins, k.d.outs, k.days); !ok || got != at(k.d.tank, k.want) {
			t.Errorf("RepeatDay(%v, %d) = %v, %v, want %d", k.d, k.days, got, ok, k.want)
		}
	}
}

func TestRepeatedDaysFollowOneAnother(t *testing.T) {
	r := rand.New(rand.NewSource(113))
	moves, rests := 0, 0
	for i, d := range someDays() {
		if i%5 != 0 {
			continue
		}
		k, half := d.tank, r.Intn(21)
		for days := range 21 {
			got, ok := impl.RepeatDay(d.tank, d.ins, d.outs, days)
			if !ok || got != k {
				t.Fatalf("RepeatDay(%v, %d) = %v, %v, want %v", d, days, got, ok, k)
			}
			if days >= half {
				first, _ := impl.RepeatDay(d.tank, d.ins, d.outs, half)
				if then, ok := impl.RepeatDay(first, d.ins, d.outs, days-half); !ok || then != got {
					t.Fatalf("RepeatDay(%v, %d) = %v, but after %d days %v, %v", d, days, got, half, then, ok)
				}
			}
			next := at(k, last(wantedDay(tankDay{k, d.ins, d.outs}).levels))
			if next != k && days > 1 {
				moves++
			} else if next == k {
				rests++
			}
			k = next
		}
	}
	if min(moves, rests) < 1000 {
		t.Error("too few of some kind:", moves, rests)
	}
}

func TestKnownSteadyLevels(t *testing.T) {
	for _, k := range []struct {
		d    tankDay
		want int
	}{
		{tankDay{tank(10, 5, 20), []int{0, 6, 2}, []int{4, 0, 9}}, 5},
		// Several levels are the same after these days: all, all but the highest ones, all but the lowest ones.
		{tankDay{tank(20, 5, 20), []int{0}, []int{0}}, 5}, {tankDay{tank(12, 5, 20), []int{0, 0}, []int{0, 0}}, 5}, {tankDay{tank(20, 5, 20), []int{4}, []int{4}}, 5}, {tankDay{tank(20, 5, 20), []int{4, 0}, []int{0, 4}}, 5},
		{tankDay{tank(20, 5, 20), []int{0, 4}, []int{4, 0}}, 9}, {tankDay{tank(5, 5, 20), []int{0, 4}, []int{4, 0}}, 9}, {tankDay{tank(5, 5, 20), []int{0, 4, 3}, []int{4, 3, 0}}, 9}, {tankDay{tank(5, 0, 60), []int{0, 40}, []int{40, 0}}, 40},
		{tankDay{tank(60, 0, 60), []int{0, 60}, []int{60, 0}}, 60}, {tankDay{tank(60, 0, 60), []int{60, 0}, []int{0, 60}}, 0}, {tankDay{tank(60, 60, 60), []int{1}, []int{2}}, 60}, {tankDay{tank(0, 0, 0), []int{1}, []int{2}}, 0},
		// One level only.
		{tankDay{tank(5, 5, 20), []int{3}, []int{1}}, 19}, {tankDay{tank(5, 5, 20), []int{3}, []int{0}}, 20}, {tankDay{tank(20, 5, 20), []int{1}, []int{3}}, 5}, {tankDay{tank(20, 5, 20), []int{1, 2}, []int{4, 0}}, 7}, {tankDay{tank(5, 5, 20), []int{100, 7}, []int{16, 3}}, 9},
		{longDay(), 47}, {flood(), 60}, {drought(), 0}, {storm(), 0}, {tankDay{tank(7, 0, 60), slices.Repeat([]int{100}, 12), slices.Repeat([]int{25}, 12)}, 35},
	} {
		if got, ok := impl.SteadyLevel(k.d.tank, k.d.ins, k.d.outs); !ok || got != k.want {
			t.Errorf("SteadyLevel(%v) = %d, %v, want %d", k.d, got, ok, k.want)
		}
	}
}

func TestSteadyLevelsAreTheSmallestThatStay(t *testing.T) {
	single, several, all, above := 0, 0, 0, 0
	for _, d := range someDays() {
		steady := wantedSteady(d)
		// No day is without one: a higher level never leads to a lower one, so day after day from
		// Least on the level never falls, and comes to rest.
		if len(steady) == 0 {
			t.Fatalf("no level is the same after %v", d)
		}
		got, ok := impl.SteadyLevel(d.tank, d.ins, d.outs)
		if !ok || got != steady[0] {
			t.Fatalf("SteadyLevel(%v) = %d, %v, want %v", d, got, ok, steady)
		}
		if after, _ := impl.RepeatDay(at(d.tank, got), d.ins, d.outs, 20); after != at(d.tank, got) {
			t.Fatalf("SteadyLevel(%v) = %d, but 20 days lead to %v", d, got, after)
		}
		switch {
		case d.tank.Least == d.tank.Most:
		case len(steady) == 1:
			single++
		case len(steady) == d.tank.Most-d.tank.Least+1:
			all++
		default:
			several++
		}
		if len(steady) > 1 && got > d.tank.Least {
			above++
		}
	}
	if min(single, several, all, above) < 500 {
		t.Error("too few of some kind:", single, several, all, above)
	}
}

func TestStartsAndSteadyLevelsDoNotDependOnTheLevel(t *testing.T) {
	for i, d := range someDays() {
		if i%11 != 0 {
			continue
		}
		start, okStart := impl.LeastStart(d.tank, d.ins, d.outs)
		steady, okSteady := impl.SteadyLevel(d.tank, d.ins, d.outs)
		for level := d.tank.Least; level <= d.tank.Most; level++ {
			if got, ok := impl.LeastStart(at(d.tank, level), d.ins, d.outs); got != start || ok != okStart {
				t.Fatalf("LeastStart(%v) = %d, %v, but %d, %v at %d", d, start, okStart, got, ok, level)
			}
			if got, ok := impl.SteadyLevel(at(d.tank, level), d.ins, d.outs); got != steady || ok != okSteady {
				t.Fatalf("SteadyLevel(%v) = %d, %v, but %d, %v at %d", d, steady, okSteady, got, ok, level)
			}
		}
	}
}

// checkNoHour checks that there is no such hour.
func checkNoHour(t *testing.T, k impl.Tank, in int, out int) {
	t.Helper()
	if got, spilled, missing, ok := impl.StepTank(k, in, out); ok || got != (impl.Tank{}) || spilled != 0 || missing != 0 {
		t.Errorf("StepTank(%v, %d, %d) = %v, %d, %d, %v", k, in, out, got, spilled, missing, ok)
	}
}

// checkNotRepeated checks that a day is not repeated so often.
func checkNotRepeated(t *testing.T, d tankDay, days int) {
	t.Helper()
	if got, ok := impl.RepeatDay(d.tank, d.ins, d.outs, days); ok || got != (impl.Tank{}) {
		t.Errorf("RepeatDay(%v, %d) = %v, %v", d, days, got, ok)
	}
}

// checkNoDay checks that every function of a day returns zero values.
func checkNoDay(t *testing.T, d tankDay) {
	t.Helper()
	if levels, spilled, missing, ok := impl.RunTank(d.tank, d.ins, d.outs); ok || len(levels) != 0 || spilled != 0 || missing != 0 {
		t.Errorf("RunTank(%v) = %v, %d, %d, %v", d, levels, spilled, missing, ok)
	}
	if is, ok := impl.IsCalm(d.tank, d.ins, d.outs); ok || is {
		t.Errorf("IsCalm(%v) = %v, %v", d, is, ok)
	}
	for name, call := range map[string]func(k impl.Tank, ins []int, outs []int) (int, bool){
		"LeastStart": impl.LeastStart, "WaterTaken": impl.WaterTaken, "FirstMissing": impl.FirstMissing, "SteadyLevel": impl.SteadyLevel,
	} {
		if got, ok := call(d.tank, d.ins, d.outs); ok || got != 0 {
			t.Errorf("%s(%v) = %d, %v", name, d, got, ok)
		}
	}
	for _, days := range []int{0, 1, 2, 19, 20, 21, -1} {
		checkNotRepeated(t, d, days)
	}
}

func TestInvalidTanksYieldZeroValues(t *testing.T) {
	for _, k := range invalidTanks() {
		for _, volumes := range [][2]int{{0, 0}, {1, 0}, {0, 1}, {15, 3}, {100, 100}, {-1, 0}, {0, 101}} {
			checkNoHour(t, k, volumes[0], volumes[1])
			checkNoDay(t, tankDay{k, []int{volumes[0]}, []int{volumes[1]}})
		}
		for _, d := range []tankDay{longDay(), flood(), drought(), storm(), {ins: []int{0, 0}, outs: []int{0, 1}}, {}} {
			checkNoDay(t, tankDay{k, d.ins, d.outs})
		}
	}
}

func TestInvalidVolumesYieldZeroValues(t *testing.T) {
	for _, k := range []impl.Tank{{}, tank(10, 5, 20), tank(0, 0, 60), tank(60, 0, 60), tank(60, 60, 60), tank(30, 0, 60)} {
		for _, volume := range otherVolumes {
			for _, other := range append([]int{0, 1, 100}, otherVolumes...) {
				checkNoHour(t, k, volume, other)
				checkNoHour(t, k, other, volume)
			}
			for _, hours := range []int{1, 2, 12} {
				for place := range hours {
					for _, rest := range []int{0, 1, 100} {
						good, bad := slices.Repeat([]int{rest}, hours), slices.Repeat([]int{rest}, hours)
						bad[place] = volume
						checkNoDay(t, tankDay{k, good, bad})
						checkNoDay(t, tankDay{k, bad, good})
						checkNoDay(t, tankDay{k, bad, bad})
					}
				}
			}
		}
	}
}

func TestInvalidDaysYieldZeroValues(t *testing.T) {
	for _, k := range []impl.Tank{{}, tank(10, 5, 20), tank(0, 0, 60), tank(60, 0, 60), tank(60, 60, 60)} {
		checkNoDay(t, tankDay{tank: k})
		checkNoDay(t, tankDay{k, []int{}, []int{}})
		for _, volume := range []int{0, 1, 100} {
			for first := range 15 {
				for second := range 15 {
					if d := (tankDay{k, slices.Repeat([]int{volume}, first), slices.Repeat([]int{volume}, second)}); first != second || first < 1 || first > 12 {
						checkNoDay(t, d)
					} else if levels, _, _, ok := impl.RunTank(k, d.ins, d.outs); !ok || len(levels) != first {
						t.Errorf("RunTank(%v) = %v, %v", d, levels, ok)
					}
				}
			}
			for _, hours := range []int{24, 100, 5000} {
				checkNoDay(t, tankDay{k, slices.Repeat([]int{volume}, hours), slices.Repeat([]int{volume}, hours)})
			}
		}
		checkNoDay(t, tankDay{k, nil, []int{0}})
		checkNoDay(t, tankDay{k, []int{0}, nil})
	}
}

func TestOtherNumbersOfDaysYieldZeroValues(t *testing.T) {
	list := []tankDay{longDay(), flood(), drought(), storm(), {tank(10, 5, 20), []int{3}, []int{1}}, {tank(7, 7, 7), []int{0}, []int{0}}, {tank(0, 0, 0), []int{0}, []int{0}}}
	for _, d := range list {
		for _, days := range otherDays {
			checkNotRepeated(t, d, days)
		}
	}
}

// callAllForTanks calls every function of the chapter and overwrites all memory of the results.
func callAllForTanks(d tankDay) {
	levels, _, _, _ := impl.RunTank(d.tank, d.ins, d.outs)
	all := levels[:cap(levels)]
	for i := range all {
		all[i] = -7
	}
	impl.IsCalm(d.tank, d.ins, d.outs)
	impl.LeastStart(d.tank, d.ins, d.outs)
	impl.WaterTaken(d.tank, d.ins, d.outs)
	impl.FirstMissing(d.tank, d.ins, d.outs)
	impl.SteadyLevel(d.tank, d.ins, d.outs)
	for _, days := range []int{-1, 0, 1, 20, 21} {
		impl.RepeatDay(d.tank, d.ins, d.outs, days)
	}
}

func TestTankFunctionsLeaveTheirArgumentsAlone(t *testing.T) {
	list := someDays()
	for _, k := range invalidTanks() {
		list = append(list, tankDay{k, []int{1, 2}, []int{3, 4}})
	}
	for _, volume := range otherVolumes {
		list = append(list, tankDay{tank(10, 5, 20), []int{1, volume}, []int{3, 4}}, tankDay{tank(10, 5, 20), []int{1, 2}, []int{3, volume}})
	}
	list = append(list, tankDay{tank: tank(10, 5, 20)}, tankDay{tank(10, 5, 20), make([]int, 13), make([]int, 13)}, tankDay{tank(10, 5, 20), []int{1}, []int{3, 4}}, tankDay{tank(10, 5, 20), []int{1, 2}, []int{3}})
	for _, d := range list {
		ins, allIns := roomBehind(d.ins)
		outs, allOuts := roomBehind(d.outs)
		insBefore, outsBefore := slices.Clone(allIns), slices.Clone(allOuts)
		callAllForTanks(tankDay{d.tank, ins, outs})
		callAllForTanks(tankDay{d.tank, ins, ins})
		if !slices.Equal(allIns, insBefore) || !slices.Equal(allOuts, outsBefore) {
			t.Fatalf("an argument of %v is modified: %v, %v", d, allIns, allOuts)
		}
	}
}

func TestNothingBehindTheArgumentsOfDaysIsRead(t *testing.T) {
	for i, d := range someDays() {
		if i%3 != 0 {
			continue
		}
		ins, _ := roomBehind(d.ins)
		outs, _ := roomBehind(d.outs)
		want := wantedDay(d)
		if levels, spilled, missing, ok := impl.RunTank(d.tank, ins, outs); !ok || !slices.Equal(levels, want.levels) || spilled != want.spilled || missing != want.missing {
			t.Fatalf("RunTank(%v) = %v, %d, %d, %v, want %v", d, levels, spilled, missing, ok, want)
		}
		if taken, ok := impl.WaterTaken(d.tank, ins, outs); !ok || taken != want.taken {
			t.Fatalf("WaterTaken(%v) = %d, %v, want %d", d, taken, ok, want.taken)
		}
		// A list that is cut off behind its length has an hour less.
		short, _ := roomBehind(d.outs[:len(d.outs)-1])
		if levels, _, _, ok := impl.RunTank(d.tank, ins, short); ok || len(levels) != 0 {
			t.Fatalf("RunTank(%v, %v, %v) = %v, %v", d.tank, ins, short, levels, ok)
		}
		short, _ = roomBehind(d.ins[:len(d.ins)-1])
		if levels, _, _, ok := impl.RunTank(d.tank, short, outs); ok || len(levels) != 0 {
			t.Fatalf("RunTank(%v, %v, %v) = %v, %v", d.tank, short, outs, levels, ok)
		}
	}
}

func TestLevelsShareNoMemory(t *testing.T) {
	// The levels of the second day are what flows in, those of the third what is taken out.
	for _, d := range []tankDay{longDay(), {tank(0, 0, 60), []int{7, 9, 4}, []int{7, 7, 9}}, {tank(20, 0, 20), []int{0, 3, 2}, []int{10, 3, 2}}, {tank(5, 5, 20), []int{0}, []int{0}}} {
		ins, outs := slices.Clone(d.ins), slices.Clone(d.outs)
		first, _, _, ok := impl.RunTank(d.tank, d.ins, d.outs)
		want := slices.Clone(first)
		again, _, _, _ := impl.RunTank(d.tank, d.ins, d.outs)
		for i := range first[:cap(first)] {
			first[:cap(first)][i] = -7
		}
		third, _, _, _ := impl.RunTank(d.tank, d.ins, d.outs)
		if !ok || len(want) == 0 || !slices.Equal(again, want) || !slices.Equal(third, want) {
			t.Error("RunTank shares memory:", want, again, third)
		}
		if !slices.Equal(d.ins, ins) || !slices.Equal(d.outs, outs) {
			t.Error("an argument is modified:", d)
		}
		for i := range d.ins {
			d.ins[i], d.outs[i] = -7, -7
		}
		if !slices.Equal(again, want) {
			t.Error("the levels change with an argument:", want, again)
		}
	}
}
