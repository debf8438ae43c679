package tests

import (
	"cmp"
	"math"
	"math/big"
	"math/rand"
	"slices"
	"testing"

	"loop.example/g00853/impl"
)

var someBases = []int{0, 1, 2, 3, 5, 7, 60, 99, 100, 101, 12345, 99999, 100000}

var otherBases = []int{-1, 100001, 100060, -100000, 1 << 32, math.MinInt, math.MaxInt}

var otherHours = []int{-1, 24, 25, 48, -24, 1 << 32, math.MinInt, math.MaxInt}

var otherShares = []int{-1, 101, 200, -100, 1 << 32, math.MinInt, math.MaxInt}

var otherMosts = []int{99, 1001, 0, 1, -1, -100, 2400, 1 << 32, math.MinInt, math.MaxInt}

// day returns the profile with these percentages, which go on until the end of the day with
// the last one.
func day(percent ...int) impl.DayProfile {
	last := percent[len(percent)-1]
	return impl.DayProfile{Percent: append(percent, slices.Repeat([]int{last}, 24-len(percent))...)}
}

// houses returns the profile of a day with a peak in the morning and one in the evening.
func houses() impl.DayProfile {
	return day(30, 20, 20, 20, 40, 90, 180, 210, 160, 120, 100, 100, 120, 110, 90, 80, 90, 120, 170, 190, 150, 100, 55, 35)
}

// late returns the profile of a day whose use runs over midnight, twice in equal hours.
func late() impl.DayProfile {
	return day(300, 200, 0, 0, 0, 0, 0, 0, 0, 0, 0, 300, 300, 0, 0, 0, 0, 0, 0, 0, 0, 500, 500, 300)
}

// spikes returns the profiles with 1000 percent in two hours and 400 percent in a third one.
func spikes() []impl.DayProfile {
	list := []impl.DayProfile{}
	for first := range 24 {
		for second := range first {
			p := day(0)
			p.Percent[first], p.Percent[second] = 1000, 1000
			p.Percent[slices.Index(p.Percent, 0)] = 400
			list = append(list, p)
			last := day(0)
			last.Percent[first], last.Percent[second] = 1000, 1000
			last.Percent[(first+23)%24] += 400
			list = append(list, last)
		}
	}
	return slices.DeleteFunc(list, func(p impl.DayProfile) bool { return slices.Max(p.Percent) > 1000 })
}

// moved returns a profile in which r has moved use from some hours to others, in steps.
func moved(r *rand.Rand, moves int, step int) impl.DayProfile {
	p := day(100)
	for range moves {
		from, to := r.Intn(24), r.Intn(24)
		if p.Percent[from] >= step && p.Percent[to]+step <= 1000 {
			p.Percent[from] -= step
			p.Percent[to] += step
		}
	}
	return p
}

// someProfiles returns profiles of many kinds: known ones, those with peaks of 1000 percent, and
// from a fixed seed smooth and rugged ones, coarse ones with many ties, and those with all of
// the use in a few equal hours.
func someProfiles() []impl.DayProfile {
	list := append(spikes(), day(100), houses(), late(), day(1000, 1000, 400, 0), day(0, 0, 0, 600, 600, 600, 600, 0), day(123, 99))
	r := rand.New(rand.NewSource(61))
	for _, step := range []int{1, 7, 25, 50, 100} {
		for _, moves := range []int{1, 2, 5, 20, 100, 1000} {
			for range 20 {
				list = append(list, moved(r, moves, step))
			}
		}
	}
	for _, hours := range []int{3, 4, 5, 6, 8, 10, 12, 15, 16, 20} {
		for range 5 {
			p := day(0)
			for _, hour := range r.Perm(24)[:hours] {
				p.Percent[hour] = 2400 / hours
			}
			list = append(list, p)
		}
	}
	return list
}

// isProfile reports whether percent are the numbers of a valid profile.
func isProfile(percent []int) bool {
	sum := new(big.Int)
	for _, number := range percent {
		if number != min(max(number, 0), 1000) {
			return false
		}
		sum.Add(sum, big.NewInt(int64(number)))
	}
	return len(percent) == 24 && sum.Cmp(big.NewInt(2400)) == 0
}

// changed returns the profile p with other percentages at some hours, given as pairs.
func changed(p impl.DayProfile, pairs ...[2]int) impl.DayProfile {
	percent := slices.Clone(p.Percent)
	for _, pair := range pairs {
		percent[pair[0]] = pair[1]
	}
	return impl.DayProfile{Percent: percent}
}

// invalidProfiles returns profiles with a wrong number of hours, wrong percentages or a wrong
// sum, by what is wrong.
func invalidProfiles() map[string]impl.DayProfile {
	list := map[string]impl.DayProfile{
		"nil":                  {},
		"no hours":             {Percent: []int{}},
		"one hour":             {Percent: []int{2400}},
		"23 hours":             {Percent: append(slices.Repeat([]int{100}, 22), 200)},
		"23 flat hours":        {Percent: slices.Repeat([]int{100}, 23)},
		"23 of 24":             {Percent: changed(day(100), [2]int{23, 0}, [2]int{0, 200}).Percent[:23]},
		"25 hours":             {Percent: append(slices.Repeat([]int{100}, 24), 0)},
		"25 hours, 0 first":    {Percent: append([]int{0}, slices.Repeat([]int{100}, 24)...)},
		"25 hours, 96 percent": {Percent: slices.Repeat([]int{96}, 25)},
		"25 flat hours":        {Percent: slices.Repeat([]int{100}, 25)},
		"48 hours":             {Percent: slices.Repeat([]int{50}, 48)},
		"100000 hours":         {Percent: make([]int, 100000)},
		"all 0":                {Percent: make([]int, 24)},
		"all 99":               day(99),
		"all 101":              day(101),
		"all 1000":             day(1000),
		"all -100":             day(-100),
		"all in one hour":      day(2400, 0),
		"an overflow to 2400":  changed(day(0), [2]int{3, math.MaxInt}, [2]int{4, math.MaxInt}, [2]int{5, 2402}),
		"another overflow":     changed(day(0), [2]int{3, math.MinInt}, [2]int{4, math.MinInt}, [2]int{5, 1000}, [2]int{6, 1000}, [2]int{7, 400}),
		"four overflows":       day(100+math.MinInt/2, 100+math.MinInt/2, 100+math.MinInt/2, 100+math.MinInt/2, 100),
	}
	for hour := range 24 {
		other := (hour + 5) % 24
		place := string(rune('a' + hour))
		list[place+": -1"] = changed(day(100), [2]int{hour, -1}, [2]int{other, 201})
		list[place+": 1001"] = changed(day(1000, 1000, 400, 0), [2]int{0, 0}, [2]int{1, 0}, [2]int{2, 0}, [2]int{other, 1000}, [2]int{(hour + 1) % 24, 399}, [2]int{hour, 1001})
		list[place+": sum 2399"] = changed(day(100), [2]int{hour, 99})
		list[place+": sum 2401"] = changed(day(100), [2]int{hour, 101})
		list[place+": MinInt"] = changed(day(100), [2]int{hour, math.MinInt})
		list[place+": MaxInt"] = changed(day(100), [2]int{hour, math.MaxInt})
	}
	return list
}

// liters returns the liters that flow in minutes at percent of a base.
func liters(base int, percent int, minutes int) *big.Rat {
	all := new(big.Int).Mul(big.NewInt(int64(base)), big.NewInt(int64(percent)))
	return new(big.Rat).SetFrac(all.Mul(all, big.NewInt(int64(minutes))), big.NewInt(100))
}

// between returns the percentages of the successive hours from an hour on, cut out of two days.
func between(p impl.DayProfile, from int, hours int) []int {
	return slices.Concat(p.Percent, p.Percent)[from : from+hours]
}

// total returns the sum of some numbers.
func total(list []int) int {
	sum := 0
	for _, number := range list {
		sum += number
	}
	return sum
}

func TestSomeProfilesAreOfManyKinds(t *testing.T) {
	list := someProfiles()
	ties, full, empty := 0, 0, 0
	for _, p := range list {
		if !isProfile(p.Percent) {
			t.Fatal("not valid:", p)
		}
		peak := slices.Max(p.Percent)
		if slices.Contains(p.Percent[slices.Index(p.Percent, peak)+1:], peak) {
			ties++
		}
		if peak == 1000 {
			full++
		}
		if slices.Contains(p.Percent, 0) {
			empty++
		}
	}
	if len(list) < 1000 || ties < 100 || full < 100 || empty < 100 {
		t.Error("too few:", len(list), ties, full, empty)
	}
}

func TestIsValidProfileMeetsTheLimits(t *testing.T) {
	for _, p := range someProfiles() {
		if !impl.IsValidProfile(p) {
			t.Error("refused", p)
		}
	}
	for name, p := range invalidProfiles() {
		if isProfile(p.Percent) || impl.IsValidProfile(p) {
			t.Error("accepted", name)
		}
	}
}

func TestIsValidProfileFollowsRangeAndSum(t *testing.T) {
	for _, p := range []impl.DayProfile{day(100), houses(), late(), day(1000, 1000, 400, 0)} {
		for first := range 24 {
			for second := range first {
				for _, by := range []int{1, -1, 20, -20, 21, -21, 100, -100, 101, -101, 700, 900, 901, -900, -901} {
					q := changed(p, [2]int{first, p.Percent[first] + by}, [2]int{second, p.Percent[second] - by})
					if impl.IsValidProfile(q) != isProfile(q.Percent) {
						t.Fatalf("IsValidProfile(%v) = %v", q, impl.IsValidProfile(q))
					}
				}
			}
		}
	}
}

func TestFlatProfileIsTheMeanInEveryHour(t *testing.T) {
	p := impl.FlatProfile()
	if len(p.Percent) != 24 || slices.Min(p.Percent) != 100 || slices.Max(p.Percent) != 100 || !impl.IsValidProfile(p) {
		t.Error("FlatProfile() =", p)
	}
}

func TestEverythingTiesInAFlatProfile(t *testing.T) {
	p := impl.FlatProfile()
	if hour, percent, ok := impl.PeakHour(p); !ok || hour != 0 || percent != 100 {
		t.Error("peak", hour, percent, ok)
	}
	for hours := 1; hours <= 24; hours++ {
		if from, sum, ok := impl.QuietestHours(p, hours); !ok || from != 0 || sum != 100*hours {
			t.Error("quietest", hours, from, sum, ok)
		}
	}
	for shift := range 24 {
		if q, ok := impl.ShiftProfile(p, shift); !ok || !slices.Equal(q.Percent, p.Percent) {
			t.Error("shifted by", shift, q, ok)
		}
	}
	for share := 0; share <= 100; share++ {
		if mixed, ok := impl.MixProfiles(p, p, share); !ok || !slices.Equal(mixed, slices.Repeat([]int{10000}, 24)) {
			t.Error("mixed with", share, mixed, ok)
		}
	}
	for most := 100; most <= 1000; most++ {
		if q, ok := impl.FlattenProfile(p, most); !ok || !slices.Equal(q.Percent, p.Percent) {
			t.Error("flattened to", most, q, ok)
		}
	}
	for _, base := range someBases {
		for hour := range 24 {
			if num, den, ok := impl.UseAt(p, base, hour); !ok || num != base || den != 1 {
				t.Error("use", base, hour, num, den, ok)
			}
			for hours := 0; hours <= 24; hours++ {
				if num, den, ok := impl.VolumeBetween(p, base, hour, hours); !ok || num != base*60*hours || den != 1 {
					t.Error("volume", base, hour, hours, num, den, ok)
				}
			}
		}
		if num, den, ok := impl.StorageFor(p, base); !ok || num != 0 || den != 1 {
			t.Error("storage", base, num, den, ok)
		}
	}
}

func TestKnownUses(t *testing.T) {
	odd := day(7, 193, 50, 150, 75, 125, 1, 199, 99, 101, 0, 200, 1000, 0, 0, 0, 0, 0, 0, 0, 0, 0, 100)
	for _, c := range []struct{ base, hour, num, den int }{
		{0, 0, 0, 1}, {0, 12, 0, 1}, {1, 0, 7, 100}, {1, 1, 193, 100}, {1, 2, 1, 2}, {1, 3, 3, 2}, {1, 4, 3, 4}, {1, 5, 5, 4},
		{10, 0, 7, 10}, {100, 0, 7, 1}, {50, 0, 7, 2}, {25, 0, 7, 4}, {20, 0, 7, 5}, {3, 6, 3, 100}, {100000, 6, 1000, 1},
		{99999, 7, 19899801, 100}, {1, 10, 0, 1}, {100000, 10, 0, 1}, {100000, 12, 1000000, 1}, {1, 12, 10, 1}, {7, 23, 7, 1}, {100000, 23, 100000, 1},
	} {
		if num, den, ok := impl.UseAt(odd, c.base, c.hour); !ok || num != c.num || den != c.den {
			t.Errorf("UseAt(%d, %d) = %d, %d, %v, want %d, %d", c.base, c.hour, num, den, ok, c.num, c.den)
		}
	}
}

func TestUseAtFollowsThePercentages(t *testing.T) {
	for _, p := range someProfiles() {
		for _, base := range someBases {
			for hour, percent := range p.Percent {
				num, den, ok := impl.UseAt(p, base, hour)
				if !ok || !isFraction(num, den, liters(base, percent, 1)) {
					t.Fatalf("UseAt(%v, %d, %d) = %d, %d, %v", p, base, hour, num, den, ok)
				}
			}
		}
	}
}

func TestKnownPeaks(t *testing.T) {
	for _, c := range []struct {
		p             impl.DayProfile
		hour, percent int
	}{
		{houses(), 7, 210}, {late(), 21, 500}, {day(1000, 1000, 400, 0), 0, 1000}, {day(123, 99), 0, 123}, {day(77, 101), 1, 101},
		{changed(day(100), [2]int{23, 101}, [2]int{0, 99}), 23, 101}, {changed(day(100), [2]int{22, 101}, [2]int{23, 101}, [2]int{0, 98}), 22, 101},
		{changed(day(0), [2]int{4, 400}, [2]int{9, 1000}, [2]int{23, 1000}), 9, 1000},
	} {
		if hour, percent, ok := impl.PeakHour(c.p); !ok || hour != c.hour || percent != c.percent {
			t.Errorf("PeakHour(%v) = %d, %d, %v, want %d, %d", c.p, hour, percent, ok, c.hour, c.percent)
		}
	}
}

func TestPeakHourIsTheFirstOfTheGreatest(t *testing.T) {
	for _, p := range someProfiles() {
		peak, greatest, ok := impl.PeakHour(p)
		if !ok || peak < 0 || peak > 23 || p.Percent[peak] != greatest {
			t.Fatalf("PeakHour(%v) = %d, %d, %v", p, peak, greatest, ok)
		}
		for hour, percent := range p.Percent {
			if percent > greatest || percent == greatest && hour < peak {
				t.Fatalf("PeakHour(%v) = %d, %d, but in hour %d are %d percent", p, peak, greatest, hour, percent)
			}
		}
	}
}

func TestKnownQuietestHours(t *testing.T) {
	for _, c := range []struct {
		p                impl.DayProfile
		hours, from, sum int
	}{
		{houses(), 1, 1, 20}, {houses(), 2, 1, 40}, {houses(), 3, 1, 60}, {houses(), 4, 0, 90}, {houses(), 5, 23, 125}, {houses(), 6, 23, 165}, {houses(), 7, 22, 220}, {houses(), 23, 8, 2190}, {houses(), 24, 0, 2400},
		{late(), 1, 2, 0}, {late(), 8, 2, 0}, {late(), 9, 2, 0}, {late(), 10, 1, 200}, {late(), 11, 0, 500}, {late(), 24, 0, 2400},
		{day(100, 200, 100, 0, 100), 1, 3, 0}, {day(100, 200, 100, 0, 100), 2, 2, 100}, {day(100, 200, 100, 0, 100), 3, 2, 200}, {day(100, 200, 100, 0, 100), 4, 2, 300}, {day(100, 200, 100, 0, 100), 23, 2, 2200},
		{changed(day(100), [2]int{23, 0}, [2]int{12, 200}), 1, 23, 0}, {changed(day(100), [2]int{23, 0}, [2]int{12, 200}), 2, 22, 100}, {changed(day(100), [2]int{23, 0}, [2]int{12, 200}), 13, 13, 1200},
		{changed(day(100), [2]int{23, 50}, [2]int{0, 50}, [2]int{12, 200}), 1, 0, 50}, {changed(day(100), [2]int{23, 50}, [2]int{0, 50}, [2]int{12, 200}), 2, 23, 100}, {changed(day(100), [2]int{23, 50}, [2]int{0, 50}, [2]int{12, 200}), 3, 22, 200},
		{day(1000, 1000, 400, 0), 1, 3, 0}, {day(1000, 1000, 400, 0), 21, 3, 0}, {day(1000, 1000, 400, 0), 22, 2, 400}, {day(1000, 1000, 400, 0), 23, 1, 1400}, {day(1000, 1000, 400, 0), 24, 0, 2400},
		{changed(day(0), [2]int{11, 1000}, [2]int{12, 1000}, [2]int{13, 400}), 21, 14, 0}, {changed(day(0), [2]int{11, 1000}, [2]int{12, 1000}, [2]int{13, 400}), 12, 14, 0}, {changed(day(0), [2]int{11, 1000}, [2]int{12, 1000}, [2]int{13, 400}), 11, 0, 0},
	} {
		if from, sum, ok := impl.QuietestHours(c.p, c.hours); !ok || from != c.from || sum != c.sum {
			t.Errorf("QuietestHours(%v, %d) = %d, %d, %v, want %d, %d", c.p, c.hours, from, sum, ok, c.from, c.sum)
		}
	}
}

func TestQuietestHoursAreTheFirstOfTheSmallest(t *testing.T) {
	overMidnight := 0
	for _, p := range someProfiles() {
		for hours := 1; hours <= 24; hours++ {
			quietest, least, ok := impl.QuietestHours(p, hours)
			if !ok || quietest < 0 || quietest > 23 || least != total(between(p, quietest, hours)) {
				t.Fatalf("QuietestHours(%v, %d) = %d, %d, %v", p, hours, quietest, least, ok)
			}
			for from := range 24 {
				if sum := total(between(p, from, hours)); sum < least || sum == least && from < quietest {
					t.Fatalf("QuietestHours(%v, %d) = %d, %d, but from %d on are %d percent", p, hours, quietest, least, from, sum)
				}
			}
			if quietest+hours > 24 {
				overMidnight++
			}
		}
	}
	if overMidnight < 1000 {
		t.Error("too few run over midnight:", overMidnight)
	}
}

func TestAllDayIsNotQuieterLater(t *testing.T) {
	for _, p := range someProfiles() {
		if from, sum, ok := impl.QuietestHours(p, 24); !ok || from != 0 || sum != 2400 {
			t.Fatalf("QuietestHours(%v, 24) = %d, %d, %v", p, from, sum, ok)
		}
	}
}

func TestShiftProfileMovesEveryHour(t *testing.T) {
	for _, p := range someProfiles() {
		for shift := range 24 {
			q, ok := impl.ShiftProfile(p, shift)
			want := slices.Concat(p.Percent[24-shift:], p.Percent[:24-shift])
			if !ok || !slices.Equal(q.Percent, want) || !impl.IsValidProfile(q) {
				t.Fatalf("ShiftProfile(%v, %d) = %v, %v", p, shift, q, ok)
			}
		}
	}
}

func TestKnownShifts(t *testing.T) {
	p := changed(day(100), [2]int{0, 90}, [2]int{7, 130}, [2]int{23, 80})
	for _, c := range []struct {
		shift int
		want  impl.DayProfile
	}{
		{0, p},
		{1, changed(day(100), [2]int{1, 90}, [2]int{8, 130}, [2]int{0, 80})},
		{12, changed(day(100), [2]int{12, 90}, [2]int{19, 130}, [2]int{11, 80})},
		{17, changed(day(100), [2]int{17, 90}, [2]int{0, 130}, [2]int{16, 80})},
		{23, changed(day(100), [2]int{23, 90}, [2]int{6, 130}, [2]int{22, 80})},
	} {
		if q, ok := impl.ShiftProfile(p, c.shift); !ok || !slices.Equal(q.Percent, c.want.Percent) {
			t.Errorf("ShiftProfile(%d) = %v, %v, want %v", c.shift, q, ok, c.want)
		}
	}
}

func TestShiftingMovesThePeak(t *testing.T) {
	moves := 0
	for _, p := range someProfiles() {
		peak, percent, _ := impl.PeakHour(p)
		for shift := range 24 {
			q, _ := impl.ShiftProfile(p, shift)
			later, same, ok := impl.PeakHour(q)
			// On ties another one of the greatest may come first once it has run over midnight.
			first := 24
			for hour := range 24 {
				if p.Percent[hour] == percent {
					first = min(first, (hour+shift)%24)
				}
			}
			if !ok || same != percent || later != first {
				t.Fatalf("the peak %d of %v is at %d after %d hours", peak, p, later, shift)
			}
			if later == (peak+shift)%24 {
				moves++
			}
		}
	}
	if moves < 10000 {
		t.Error("too few peaks are moved:", moves)
	}
}

func TestShiftsAddUp(t *testing.T) {
	for _, p := range someProfiles()[:300] {
		for first := range 24 {
			once, _ := impl.ShiftProfile(p, first)
			for second := range 24 {
				twice, _ := impl.ShiftProfile(once, second)
				both, ok := impl.ShiftProfile(p, (first+second)%24)
				if !ok || !slices.Equal(twice.Percent, both.Percent) {
					t.Fatalf("%v is %v after %d and %d hours, and %v after both", p, twice, first, second, both)
				}
			}
		}
	}
}

func TestKnownMixtures(t *testing.T) {
	a, b := day(1000, 0, 400, 0, 1000, 0), changed(day(100), [2]int{0, 30}, [2]int{3, 170})
	for _, c := range []struct {
		share int
		want  []int
	}{
		{0, changed(day(10000), [2]int{0, 3000}, [2]int{3, 17000}).Percent},
		{1, changed(day(9900), [2]int{0, 3970}, [2]int{2, 10300}, [2]int{3, 16830}, [2]int{4, 10900}).Percent},
		{50, changed(day(5000), [2]int{0, 51500}, [2]int{2, 25000}, [2]int{3, 8500}, [2]int{4, 55000}).Percent},
		{99, changed(day(100), [2]int{0, 99030}, [2]int{2, 39700}, [2]int{3, 170}, [2]int{4, 99100}).Percent},
		{100, changed(day(0), [2]int{0, 100000}, [2]int{2, 40000}, [2]int{4, 100000}).Percent},
	} {
		if mixed, ok := impl.MixProfiles(a, b, c.share); !ok || !slices.Equal(mixed, c.want) {
			t.Errorf("MixProfiles(%d) = %v, %v, want %v", c.share, mixed, ok, c.want)
		}
	}
}

func TestMixturesFollowTheShares(t *testing.T) {
	list := someProfiles()
	for i, a := range list {
		b := list[(i*37+11)%len(list)]
		for share := 0; share <= 100; share++ {
			mixed, ok := impl.MixProfiles(a, b, share)
			if !ok || len(mixed) != 24 || total(mixed) != 240000 {
				t.Fatalf("MixProfiles(%v, %v, %d) = %v, %v", a, b, share, mixed, ok)
			}
			for hour, number := range mixed {
				// From all of b each of share parts moves on to a.
				if number != 100*b.Percent[hour]+share*(a.Percent[hour]-b.Percent[hour]) {
					t.Fatalf("MixProfiles(%v, %v, %d) = %v", a, b, share, mixed)
				}
			}
			if other, ok := impl.MixProfiles(b, a, 100-share); !ok || !slices.Equal(other, mixed) {
				t.Fatalf("MixProfiles(%v, %v, %d) = %v, not %v", b, a, 100-share, other, mixed)
			}
		}
	}
}

func TestKnownFlattenedProfiles(t *testing.T) {
	for name, c := range map[string]struct {
		p    impl.DayProfile
		most int
		want impl.DayProfile
	}{
		"one hour above":               {changed(day(100), [2]int{3, 50}, [2]int{7, 150}), 120, changed(day(100), [2]int{3, 80}, [2]int{7, 120})},
		"one hour above by one":        {changed(day(100), [2]int{3, 50}, [2]int{7, 150}), 149, changed(day(100), [2]int{3, 51}, [2]int{7, 149})},
		"met exactly":                  {changed(day(100), [2]int{3, 50}, [2]int{7, 150}), 150, changed(day(100), [2]int{3, 50}, [2]int{7, 150})},
		"nothing above":                {changed(day(100), [2]int{3, 50}, [2]int{7, 150}), 151, changed(day(100), [2]int{3, 50}, [2]int{7, 150})},
		"nothing above 1000":           {day(1000, 1000, 400, 0), 1000, day(1000, 1000, 400, 0)},
		"above 999":                    {day(1000, 1000, 400, 0), 999, day(999, 999, 400, 1, 1, 0)},
		"to the first of the smallest": {day(1000, 0, 400, 0, 1000, 0), 990, changed(day(1), [2]int{0, 990}, [2]int{2, 400}, [2]int{4, 990}, [2]int{23, 0})},
		"to the mean":                  {day(1000, 1000, 400, 0), 100, day(100)},
		"houses to the mean":           {houses(), 100, day(100)},
		"the lowest one catches up":    {changed(day(100), [2]int{0, 96}, [2]int{9, 93}, [2]int{11, 111}), 108, changed(day(100), [2]int{0, 96}, [2]int{9, 96}, [2]int{11, 108})},
		"then the first one":           {changed(day(100), [2]int{0, 96}, [2]int{9, 93}, [2]int{11, 111}), 107, changed(day(100), [2]int{0, 97}, [2]int{9, 96}, [2]int{11, 107})},
		"and the second one":           {changed(day(100), [2]int{0, 96}, [2]int{9, 93}, [2]int{11, 111}), 106, changed(day(100), [2]int{0, 97}, [2]int{9, 97}, [2]int{11, 106})},
		"late":                         {late(), 300, day(300, 200, 24, 24, 24, 24, 24, 24, 24, 24, 24, 300, 300, 23, 23, 23, 23, 23, 23, 23, 23, 300, 300, 300)},
	} {
		q, ok := impl.FlattenProfile(c.p, c.most)
		if !ok || !slices.Equal(q.Percent, c.want.Percent) {
			t.Errorf("%s: FlattenProfile(%v, %d) = %v, %v, want %v", name, c.p, c.most, q, ok, c.want)
		}
	}
}

// wantedFlat returns the flattened profile without moving single percents: what is above most
// fills the hours up to a common level, and what is left over goes to the first hours at it.
func wantedFlat(p impl.DayProfile, most int) []int {
	flat, above := []int{}, 0
	for _, percent := range p.Percent {
		above += max(percent-most, 0)
		flat = append(flat, min(percent, most))
	}
	room := func(level int) int {
		sum := 0
		for _, percent := range flat {
			sum += max(level-percent, 0)
		}
		return sum
	}
	level := 0
	for level < 100 && room(level+1) <= above {
		level++
	}
	above -= room(level)
	for hour, percent := range flat {
		flat[hour] = max(percent, level)
		if above > 0 && percent <= level {
			flat[hour]++
			above--
		}
	}
	return flat
}

func TestFlattenedProfilesFillTheLowestHours(t *testing.T) {
	for _, p := range someProfiles() {
		for _, most := range []int{100, 101, 102, 103, 105, 110, 117, 120, 125, 149, 150, 151, 200, 250, 299, 300, 301, 400, 500, 600, 700, 800, 900, 950, 990, 998, 999, 1000} {
			q, ok := impl.FlattenProfile(p, most)
			if want := wantedFlat(p, most); !ok || !slices.Equal(q.Percent, want) || !impl.IsValidProfile(q) {
				t.Fatalf("FlattenProfile(%v, %d) = %v, %v, want %v", p, most, q, ok, want)
			}
		}
	}
}

func TestFlattenedProfilesFollowEachMove(t *testing.T) {
	for i, p := range someProfiles() {
		if i%17 != 0 {
			continue
		}
		percent := slices.Clone(p.Percent)
		for most := slices.Max(percent); most >= 100; most-- {
			for slices.Max(percent) > most {
				hours := make([]int, 24)
				for hour := range hours {
					hours[hour] = hour
				}
				slices.SortFunc(hours, func(a int, b int) int { return cmp.Or(cmp.Compare(percent[a], percent[b]), cmp.Compare(a, b)) })
				lowest := hours[0]
				slices.SortFunc(hours, func(a int, b int) int { return cmp.Or(cmp.Compare(percent[b], percent[a]), cmp.Compare(a, b)) })
				percent[hours[0]]--
				percent[lowest]++
			}
			if q, ok := impl.FlattenProfile(p, most); !ok || !slices.Equal(q.Percent, percent) {
				t.Fatalf("FlattenProfile(%v, %d) = %v, %v, want %v", p, most, q, ok, percent)
			}
		}
	}
}

func TestProfilesBelowMostStayAsTheyAre(t *testing.T) {
	for _, p := range someProfiles() {
		greatest := slices.Max(p.Percent)
		for _, most := range []int{greatest, min(greatest+1, 1000), 1000} {
			if q, ok := impl.FlattenProfile(p, most); !ok || !slices.Equal(q.Percent, p.Percent) {
				t.Fatalf("FlattenProfile(%v, %d) = %v, %v", p, most, q, ok)
			}
		}
	}
}

func TestKnownVolumesOfProfiles(t *testing.T) {
	for _, c := range []struct {
		p                           impl.DayProfile
		base, from, hours, num, den int
	}{
		{houses(), 100, 7, 1, 12600, 1}, {houses(), 100, 7, 2, 22200, 1}, {houses(), 100, 22, 4, 8400, 1}, {houses(), 100, 23, 1, 2100, 1}, {houses(), 100, 23, 2, 3900, 1},
		{houses(), 1, 22, 1, 33, 1}, {houses(), 7, 23, 24, 10080, 1}, {houses(), 7, 0, 24, 10080, 1}, {houses(), 7, 7, 23, 9324, 1},
		{day(77, 101), 1, 0, 1, 231, 5}, {day(77, 101), 1, 23, 1, 303, 5}, {day(77, 101), 1, 23, 2, 534, 5}, {day(77, 101), 1, 1, 23, 6969, 5}, {day(77, 101), 5, 23, 2, 534, 1}, {day(77, 101), 2, 23, 2, 1068, 5},
		{day(77, 101), 1, 0, 24, 1440, 1}, {day(77, 101), 100000, 0, 24, 144000000, 1}, {day(77, 101), 100000, 23, 24, 144000000, 1}, {day(77, 101), 0, 5, 24, 0, 1},
		{day(77, 101), 1, 0, 0, 0, 1}, {day(77, 101), 100000, 23, 0, 0, 1}, {day(77, 101), 0, 0, 0, 0, 1},
		{day(1000, 1000, 400, 0), 100000, 0, 2, 120000000, 1}, {day(1000, 1000, 400, 0), 100000, 0, 3, 144000000, 1}, {day(1000, 1000, 400, 0), 100000, 3, 21, 0, 1}, {day(1000, 1000, 400, 0), 100000, 3, 22, 60000000, 1},
	} {
		if num, den, ok := impl.VolumeBetween(c.p, c.base, c.from, c.hours); !ok || num != c.num || den != c.den {
			t.Errorf("VolumeBetween(%v, %d, %d, %d) = %d, %d, %v, want %d, %d", c.p, c.base, c.from, c.hours, num, den, ok, c.num, c.den)
		}
	}
}

func TestVolumesFollowTheUseOfEachHour(t *testing.T) {
	list := someProfiles()
	for i, p := range list {
		base := someBases[i%len(someBases)]
		if i%3 == 0 {
			base = i * 7919 % 100001
		}
		for from := range 24 {
			used := new(big.Rat)
			for hours := 0; hours <= 24; hours++ {
				num, den, ok := impl.VolumeBetween(p, base, from, hours)
				if !ok || !isFraction(num, den, used) {
					t.Fatalf("VolumeBetween(%v, %d, %d, %d) = %d, %d, %v, want %v", p, base, from, hours, num, den, ok, used)
				}
				used.Add(used, liters(base, p.Percent[(from+hours)%24], 60))
			}
		}
	}
}

func TestADayHasTheVolumeOfItsMean(t *testing.T) {
	for _, p := range someProfiles() {
		for _, base := range someBases {
			uses := new(big.Rat)
			for hour := range 24 {
				if num, den, ok := impl.VolumeBetween(p, base, hour, 24); !ok || num != base*60*24 || den != 1 {
					t.Fatalf("VolumeBetween(%v, %d, %d, 24) = %d, %d, %v", p, base, hour, num, den, ok)
				}
				num, den, _ := impl.UseAt(p, base, hour)
				uses.Add(uses, new(big.Rat).Mul(big.NewRat(int64(num), int64(den)), big.NewRat(60, 1)))
			}
			if !isFraction(base*60*24, 1, uses) {
				t.Fatalf("all hours of %v use %v at %d", p, uses, base)
			}
		}
	}
}

func TestKnownStorages(t *testing.T) {
	for _, c := range []struct {
		p              impl.DayProfile
		base, num, den int
	}{
		{changed(day(100), [2]int{3, 50}, [2]int{7, 150}), 100, 3000, 1}, {changed(day(100), [2]int{3, 150}, [2]int{7, 50}), 100, 3000, 1}, {changed(day(100), [2]int{0, 150}, [2]int{23, 50}), 100, 3000, 1}, {changed(day(100), [2]int{0, 50}, [2]int{23, 150}), 100, 3000, 1},
		{day(77, 101), 1, 69, 5}, {day(123, 99), 1, 69, 5}, {day(77, 101), 5, 69, 1}, {day(77, 101), 0, 0, 1}, {day(77, 101), 100000, 1380000, 1},
		{changed(day(100), [2]int{5, 99}, [2]int{6, 101}), 1, 3, 5}, {changed(day(100), [2]int{5, 99}, [2]int{6, 101}), 5, 3, 1},
		{changed(day(100), [2]int{2, 90}, [2]int{3, 110}, [2]int{4, 120}, [2]int{5, 80}), 10, 180, 1}, {changed(day(100), [2]int{2, 90}, [2]int{3, 110}, [2]int{4, 80}, [2]int{5, 120}), 10, 120, 1},
		{day(1000, 1000, 400, 0), 100000, 126000000, 1}, {changed(day(0), [2]int{11, 1000}, [2]int{12, 1000}, [2]int{13, 400}), 100000, 126000000, 1}, {changed(day(0), [2]int{21, 400}, [2]int{22, 1000}, [2]int{23, 1000}), 100000, 126000000, 1}, {day(1000, 1000, 400, 0), 1, 1260, 1},
		{houses(), 100, 29400, 1},
	} {
		if num, den, ok := impl.StorageFor(c.p, c.base); !ok || num != c.num || den != c.den {
			t.Errorf("StorageFor(%v, %d) = %d, %d, %v, want %d, %d", c.p, c.base, num, den, ok, c.num, c.den)
		}
	}
}

// wantedStorage returns the difference of the greatest and the smallest of the 24 sums.
func wantedStorage(p impl.DayProfile, base int) *big.Rat {
	sums := []*big.Rat{}
	for end := 1; end <= 24; end++ {
		sums = append(sums, new(big.Rat).Sub(liters(base, 100, 60*end), liters(base, total(p.Percent[:end]), 60)))
	}
	order := func(a *big.Rat, b *big.Rat) int { return a.Cmp(b) }
	return new(big.Rat).Sub(slices.MaxFunc(sums, order), slices.MinFunc(sums, order))
}

func TestStorageFollowsTheSums(t *testing.T) {
	for i, p := range someProfiles() {
		for _, base := range append([]int{i * 7919 % 100001}, someBases...) {
			num, den, ok := impl.StorageFor(p, base)
			if want := wantedStorage(p, base); !ok || !isFraction(num, den, want) {
				t.Fatalf("StorageFor(%v, %d) = %d, %d, %v, want %v", p, base, num, den, ok, want)
			}
		}
	}
}

func TestStorageIsWhatSomeHoursTakeBeyondTheInflow(t *testing.T) {
	for i, p := range someProfiles() {
		base := 1 + i*7919%100000
		most := new(big.Rat)
		for from := range 24 {
			for hours := 0; hours <= 24; hours++ {
				num, den, _ := impl.VolumeBetween(p, base, from, hours)
				beyond := new(big.Rat).Sub(big.NewRat(int64(num), int64(den)), big.NewRat(int64(base*60*hours), 1))
				if beyond.Cmp(most) > 0 {
					most = beyond
				}
			}
		}
		for _, shift := range []int{0, 1, 5, 12, 22, 23} {
			q, _ := impl.ShiftProfile(p, shift)
			if num, den, ok := impl.StorageFor(q, base); !ok || !isFraction(num, den, most) {
				t.Fatalf("StorageFor(%v, %d) = %d, %d, %v, want %v", q, base, num, den, ok, most)
			}
		}
	}
}

// checkNoDemand checks that every function with a profile, a base, an hour, a number of hours, a
// share and a most returns zero values for them.
func checkNoDemand(t *testing.T, p impl.DayProfile, base int, hour int, hours int, share int, most int) {
	t.Helper()
	checkNoUse(t, p, base, hour, hours)
	if h, percent, ok := impl.PeakHour(p); ok || h != 0 || percent != 0 {
		t.Errorf("PeakHour(%v) = %d, %d, %v", p, h, percent, ok)
	}
	if from, sum, ok := impl.QuietestHours(p, hours); ok || from != 0 || sum != 0 {
		t.Errorf("QuietestHours(%v, %d) = %d, %d, %v", p, hours, from, sum, ok)
	}
	if q, ok := impl.ShiftProfile(p, hour); ok || len(q.Percent) != 0 {
		t.Errorf("ShiftProfile(%v, %d) = %v, %v", p, hour, q, ok)
	}
	for _, other := range []impl.DayProfile{p, day(100), houses()} {
		if mixed, ok := impl.MixProfiles(p, other, share); ok || len(mixed) != 0 {
			t.Errorf("MixProfiles(%v, %v, %d) = %v, %v", p, other, share, mixed, ok)
		}
		if mixed, ok := impl.MixProfiles(other, p, share); ok || len(mixed) != 0 {
			t.Errorf("MixProfiles(%v, %v, %d) = %v, %v", other, p, share, mixed, ok)
		}
	}
	if q, ok := impl.FlattenProfile(p, most); ok || len(q.Percent) != 0 {
		t.Errorf("FlattenProfile(%v, %d) = %v, %v", p, most, q, ok)
	}
}

// checkNoUse checks that every function with a base returns zero values for these arguments.
func checkNoUse(t *testing.T, p impl.DayProfile, base int, hour int, hours int) {
	t.Helper()
	if num, den, ok := impl.UseAt(p, base, hour); ok || num != 0 || den != 0 {
		t.Errorf("UseAt(%v, %d, %d) = %d, %d, %v", p, base, hour, num, den, ok)
	}
	if num, den, ok := impl.VolumeBetween(p, base, hour, hours); ok || num != 0 || den != 0 {
		t.Errorf("VolumeBetween(%v, %d, %d, %d) = %d, %d, %v", p, base, hour, hours, num, den, ok)
	}
	if num, den, ok := impl.StorageFor(p, base); ok || num != 0 || den != 0 {
		t.Errorf("StorageFor(%v, %d) = %d, %d, %v", p, base, num, den, ok)
	}
}

func TestInvalidProfilesYieldZeroValues(t *testing.T) {
	for _, p := range invalidProfiles() {
		for _, hour := range []int{0, 1, 22, 23} {
			checkNoDemand(t, p, 100, hour, 1+hour, 50, 100)
			checkNoDemand(t, p, 0, hour, 24, 0, 1000)
			checkNoDemand(t, p, 100000, hour, 2, 100, 150)
		}
	}
	for _, base := range otherBases {
		checkNoDemand(t, impl.DayProfile{}, base, -1, 25, 101, 99)
	}
}

func TestOtherBasesYieldZeroValues(t *testing.T) {
	for _, p := range []impl.DayProfile{day(100), houses(), day(1000, 1000, 400, 0)} {
		for _, base := range otherBases {
			for hour := range 24 {
				for _, hours := range []int{0, 1, 12, 24} {
					checkNoUse(t, p, base, hour, hours)
				}
			}
		}
	}
}

func TestOtherHoursYieldZeroValues(t *testing.T) {
	for _, p := range []impl.DayProfile{day(100), houses(), day(1000, 1000, 400, 0)} {
		for _, hour := range otherHours {
			for _, base := range []int{0, 100, 100000} {
				if num, den, ok := impl.UseAt(p, base, hour); ok || num != 0 || den != 0 {
					t.Errorf("UseAt(%v, %d, %d) = %d, %d, %v", p, base, hour, num, den, ok)
				}
				for _, hours := range append([]int{0, 1, 12, 24}, otherHours...) {
					if num, den, ok := impl.VolumeBetween(p, base, hour, hours); ok || num != 0 || den != 0 {
						t.Errorf("VolumeBetween(%v, %d, %d, %d) = %d, %d, %v", p, base, hour, hours, num, den, ok)
					}
				}
				for from := range 24 {
					// All but 24 hours are too few or too many for a volume as well.
					if num, den, ok := impl.VolumeBetween(p, base, from, hour); hour != 24 && (ok || num != 0 || den != 0) {
						t.Errorf("VolumeBetween(%v, %d, %d, %d) = %d, %d, %v", p, base, from, hour, num, den, ok)
					}
				}
			}
			if q, ok := impl.ShiftProfile(p, hour); ok || len(q.Percent) != 0 {
				t.Errorf("ShiftProfile(%v, %d) = %v, %v", p, hour, q, ok)
			}
		}
		for _, hours := range []int{0, -1, 25, 26, 48, -24, 1 << 32, math.MinInt, math.MaxInt} {
			if from, sum, ok := impl.QuietestHours(p, hours); ok || from != 0 || sum != 0 {
				t.Errorf("QuietestHours(%v, %d) = %d, %d, %v", p, hours, from, sum, ok)
			}
		}
	}
}

func TestOtherSharesAndMostsYieldZeroValues(t *testing.T) {
	for _, p := range []impl.DayProfile{day(100), houses(), day(1000, 1000, 400, 0)} {
		for _, share := range otherShares {
			if mixed, ok := impl.MixProfiles(p, day(100), share); ok || len(mixed) != 0 {
				t.Errorf("MixProfiles(%v, %d) = %v, %v", p, share, mixed, ok)
			}
		}
		for _, most := range otherMosts {
			if q, ok := impl.FlattenProfile(p, most); ok || len(q.Percent) != 0 {
				t.Errorf("FlattenProfile(%v, %d) = %v, %v", p, most, q, ok)
			}
		}
	}
}

// callAllForDemands calls every function for p and q and overwrites all memory of the results.
func callAllForDemands(p impl.DayProfile, q impl.DayProfile) {
	impl.IsValidProfile(p)
	impl.PeakHour(p)
	results := [][]int{impl.FlatProfile().Percent}
	for _, hours := range []int{0, 1, 5, 23, 24} {
		shifted, _ := impl.ShiftProfile(p, hours)
		mixed, _ := impl.MixProfiles(p, q, 25*min(hours, 4))
		results = append(results, shifted.Percent, mixed)
		impl.UseAt(p, 100, hours)
		impl.QuietestHours(p, hours)
		impl.VolumeBetween(p, 100, 20, hours)
	}
	for _, most := range []int{99, 100, 120, 1000} {
		flat, _ := impl.FlattenProfile(p, most)
		results = append(results, flat.Percent)
	}
	impl.StorageFor(p, 100)
	for _, list := range results {
		all := list[:cap(list)]
		for i := range all {
			all[i] = -7
		}
	}
}

func TestDemandFunctionsLeaveTheirArgumentsAlone(t *testing.T) {
	list := someProfiles()
	for _, p := range invalidProfiles() {
		list = append(list, p)
	}
	for i, p := range list {
		percent, whole := roomBehind(p.Percent)
		before := slices.Clone(whole)
		other, wholeOther := roomBehind(list[(i*37+11)%len(list)].Percent)
		otherBefore := slices.Clone(wholeOther)
		callAllForDemands(impl.DayProfile{Percent: percent}, impl.DayProfile{Percent: other})
		callAllForDemands(impl.DayProfile{Percent: percent}, impl.DayProfile{Percent: percent})
		if !slices.Equal(whole, before) || !slices.Equal(wholeOther, otherBefore) {
			t.Fatalf("an argument is modified: %v to %v, %v to %v", before, whole, otherBefore, wholeOther)
		}
	}
}

func TestProfilesShareNoMemory(t *testing.T) {
	p := houses()
	for name, call := range map[string]func() ([]int, bool){
		"FlatProfile": func() ([]int, bool) { return impl.FlatProfile().Percent, true },
		"ShiftProfile": func() ([]int, bool) {
			q, ok := impl.ShiftProfile(p, 5)
			return q.Percent, ok
		},
		"ShiftProfile by 0": func() ([]int, bool) {
			q, ok := impl.ShiftProfile(p, 0)
			return q.Percent, ok
		},
		"MixProfiles":          func() ([]int, bool) { return impl.MixProfiles(p, day(100), 30) },
		"MixProfiles of one":   func() ([]int, bool) { return impl.MixProfiles(p, p, 100) },
		"MixProfiles of other": func() ([]int, bool) { return impl.MixProfiles(day(100), p, 0) },
		"FlattenProfile": func() ([]int, bool) {
			q, ok := impl.FlattenProfile(p, 150)
			return q.Percent, ok
		},
		"FlattenProfile to 1000": func() ([]int, bool) {
			q, ok := impl.FlattenProfile(p, 1000)
			return q.Percent, ok
		},
	} {
		first, _ := call()
		want := slices.Clone(first)
		second, _ := call()
		for i := range first {
			first[i] = -7
		}
		third, ok := call()
		if !ok || len(want) != 24 || !slices.Equal(second, want) || !slices.Equal(third, want) || !slices.Equal(p.Percent, houses().Percent) {
			t.Error(name, "shares memory:", want, second, third)
		}
	}
}
