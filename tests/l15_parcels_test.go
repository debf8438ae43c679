package tests

import (
	"math"
	"math/big"
	"math/rand"
	"slices"
	"sort"
	"testing"

	"loop.example/g00853/impl"
)

// noParcelVolumes are numbers that are no Volumes of Parcels.
var noParcelVolumes = []int{0, -1, 1001, -2, 1002, -1000, 2000, 1 << 32, -1 << 32, 1<<32 + 5, math.MinInt, math.MaxInt}

// noGrades are numbers that are no Grades, and no limits of Grades.
var noGrades = []int{-1, 10001, -2, 10002, -10000, 20000, 1 << 32, -1 << 32, 1<<32 + 5, math.MinInt, math.MaxInt}

// noFractions are pairs of numbers that are no fractions by which Grades decay.
var noFractions = [][2]int{
	{0, 0}, {1, 0}, {-1, 0}, {2, 1}, {3, 2}, {51, 50}, {101, 100}, {100, 99}, {0, 101}, {1, 101}, {50, 101}, {100, 101}, {101, 101}, {102, 101}, {1, 102}, {102, 102}, {1, 200}, {1000, 1000},
	{-1, 1}, {-1, 2}, {-1, 100}, {-100, 100}, {-1, 101}, {0, -1}, {1, -1}, {-1, -1}, {-2, -1}, {-1, -2}, {-100, -100}, {-1, -100}, {0, -100},
	{math.MinInt, 1}, {math.MaxInt, 1}, {0, math.MinInt}, {0, math.MaxInt}, {math.MinInt, math.MinInt}, {math.MaxInt, math.MaxInt}, {math.MinInt, -1}, {math.MinInt, 100}, {1, 1<<32 + 5}, {1 << 32, 1<<32 + 5}, {1<<32 + 1, 5},
}

// parcel returns a Parcel.
func parcel(volume int, grade int) impl.Parcel { return impl.Parcel{Volume: volume, Grade: grade} }

// parcels returns a list of Parcels, each given by a Volume and a Grade.
func parcels(list ...[2]int) []impl.Parcel {
	all := []impl.Parcel{}
	for _, p := range list {
		all = append(all, parcel(p[0], p[1]))
	}
	return all
}

// unitsOf returns the Grades of all units, in order.
func unitsOf(list []impl.Parcel) []int {
	units := []int{}
	for _, p := range list {
		for range p.Volume {
			units = append(units, p.Grade)
		}
	}
	return units
}

// parcelsOf returns the fewest Parcels with these units.
func parcelsOf(units []int) []impl.Parcel {
	list := []impl.Parcel{}
	for i, grade := range units {
		if i == 0 || units[i-1] != grade {
			list = append(list, parcel(0, grade))
		}
		list[len(list)-1].Volume++
	}
	return list
}

// wantedPipeful reports whether a list is a pipeful.
func wantedPipeful(list []impl.Parcel) bool {
	volume := 0
	for i, p := range list {
		if p.Volume < 1 || p.Volume > 1000 || p.Grade < 0 || p.Grade > 10000 || i > 0 && list[i-1].Grade == p.Grade {
			return false
		}
		if volume += p.Volume; volume > 1000 {
			return false
		}
	}
	return 1 <= len(list) && len(list) <= 8
}

// threeParcels is a pipeful of 20 units.
func threeParcels() []impl.Parcel { return parcels([2]int{10, 5}, [2]int{4, 20}, [2]int{6, 1}) }

// eightParcels is a pipeful of 24 units, three with each of the Grades from 1 on.
func eightParcels() []impl.Parcel {
	list := []impl.Parcel{}
	for i := range 8 {
		list = append(list, parcel(3, i+1))
	}
	return list
}

// fullEight is a pipeful of MaxParcels Parcels with MaxVolume units.
func fullEight() []impl.Parcel {
	return parcels([2]int{1, 10000}, [2]int{993, 0}, [2]int{1, 10000}, [2]int{1, 9999}, [2]int{1, 10000}, [2]int{1, 1}, [2]int{1, 0}, [2]int{1, 10000})
}

// knownPipefuls returns pipefuls of many kinds.
func knownPipefuls() [][]impl.Parcel {
	return [][]impl.Parcel{
		threeParcels(), eightParcels(), eightParcels()[:7], fullEight(),
		// One Parcel.
		parcels([2]int{1, 0}), parcels([2]int{1, 1}), parcels([2]int{1, 10000}), parcels([2]int{2, 7}), parcels([2]int{999, 3}), parcels([2]int{1000, 0}), parcels([2]int{1000, 1}), parcels([2]int{1000, 10000}),
		// Two Parcels.
		parcels([2]int{1, 0}, [2]int{1, 1}), parcels([2]int{1, 1}, [2]int{1, 0}), parcels([2]int{999, 10000}, [2]int{1, 0}), parcels([2]int{1, 9999}, [2]int{999, 10000}), parcels([2]int{500, 0}, [2]int{500, 10000}),
		// The same in both directions.
		parcels([2]int{2, 4}, [2]int{3, 5}, [2]int{2, 4}), parcels([2]int{1, 0}, [2]int{2, 1}, [2]int{3, 2}, [2]int{2, 1}, [2]int{1, 0}), parcels([2]int{5, 9}, [2]int{1, 8}, [2]int{1, 9}, [2]int{1, 8}, [2]int{1, 9}, [2]int{1, 8}, [2]int{5, 9}),
		// The same Grades in both directions, but other Volumes.
		parcels([2]int{2, 4}, [2]int{3, 5}, [2]int{1, 4}),
		// Grades that rise, that fall, and by turns.
		parcels([2]int{3, 1}, [2]int{1, 2}, [2]int{2, 30}, [2]int{5, 400}), parcels([2]int{3, 400}, [2]int{1, 30}, [2]int{2, 2}, [2]int{5, 1}),
		parcels([2]int{1, 0}, [2]int{1, 1}, [2]int{1, 0}, [2]int{1, 1}, [2]int{1, 0}, [2]int{1, 1}, [2]int{1, 0}, [2]int{1, 1}),
		parcels([2]int{125, 0}, [2]int{125, 10000}, [2]int{125, 0}, [2]int{125, 10000}, [2]int{125, 0}, [2]int{125, 10000}, [2]int{125, 0}, [2]int{125, 10000}),
		parcels([2]int{50, 99}, [2]int{50, 98}, [2]int{50, 97}, [2]int{50, 96}, [2]int{50, 95}),
		// Several with the smallest Grade.
		parcels([2]int{3, 8}, [2]int{2, 3}, [2]int{4, 9}, [2]int{1, 3}), parcels([2]int{3, 3}, [2]int{2, 8}, [2]int{4, 3}, [2]int{1, 9}, [2]int{7, 3}),
	}
}

// invalidPipefuls returns lists that are no pipefuls, most of them in one respect only.
func invalidPipefuls() [][]impl.Parcel {
	list := [][]impl.Parcel{
		nil, {}, threeParcels()[:0], {{}}, {{}, {}},
		// One Parcel more than MaxParcels, or several.
		append(eightParcels(), parcel(3, 9)), append(eightParcels(), parcel(1, 1)), append(eightParcels(), parcel(1, 7), parcel(1, 8)), slices.Repeat(parcels([2]int{1, 0}, [2]int{1, 1}), 5), slices.Repeat(parcels([2]int{1, 0}, [2]int{1, 1}), 500),
		append(eightParcels(), parcel(0, 9)), append(eightParcels(), parcel(3, 8)),
		// All together more than MaxVolume.
		parcels([2]int{1000, 0}, [2]int{1, 1}), parcels([2]int{1, 0}, [2]int{1000, 1}), parcels([2]int{500, 0}, [2]int{501, 1}), parcels([2]int{999, 0}, [2]int{1, 1}, [2]int{1, 2}), parcels([2]int{1000, 0}, [2]int{1000, 1}), append(fullEight()[:7], parcel(2, 5)),
		parcels([2]int{126, 0}, [2]int{125, 1}, [2]int{125, 0}, [2]int{125, 1}, [2]int{125, 0}, [2]int{125, 1}, [2]int{125, 0}, [2]int{125, 1}),
		// Neighbors with the same Grade.
		parcels([2]int{1, 2}, [2]int{1, 2}), parcels([2]int{1, 0}, [2]int{2, 0}), parcels([2]int{4, 10000}, [2]int{1, 10000}), parcels([2]int{1, 2}, [2]int{1, 2}, [2]int{1, 3}), parcels([2]int{1, 3}, [2]int{1, 2}, [2]int{5, 2}), parcels([2]int{1, 2}, [2]int{1, 2}, [2]int{1, 2}),
		parcels([2]int{1, 1}, [2]int{1, 2}, [2]int{1, 3}, [2]int{1, 3}, [2]int{1, 4}), append(eightParcels()[:7], parcel(1, 7)), append(parcels([2]int{1, 2}), eightParcels()[1:]...), parcels([2]int{500, 2}, [2]int{500, 2}), parcels([2]int{500, 2}, [2]int{501, 2}),
	}
	for place := range 3 {
		for _, volume := range noParcelVolumes {
			one := threeParcels()
			one[place].Volume = volume
			list = append(list, one, parcels([2]int{volume, place}))
		}
		for _, grade := range noGrades {
			one := threeParcels()
			one[place].Grade = grade
			list = append(list, one, parcels([2]int{1 + place, grade}))
		}
	}
	// A Volume below 0 that makes up for another one.
	return append(list, parcels([2]int{1000, 1}, [2]int{-1, 2}, [2]int{1, 3}), parcels([2]int{-5, 1}, [2]int{10, 2}), parcels([2]int{10, 2}, [2]int{-5, 1}), parcels([2]int{math.MaxInt, 1}, [2]int{math.MaxInt, 2}, [2]int{3, 3}))
}

// smallPipefuls returns all pipefuls of up to five units with Grades of up to 2, and of up to nine
// with Grades of up to 1.
func smallPipefuls() [][]impl.Parcel {
	list := [][]impl.Parcel{}
	for length := 1; length <= 9; length++ {
		most := 2
		if length > 5 {
			most = 1
		}
		volumeLists(length, most, func(units []int) {
			if one := parcelsOf(units); len(one) <= 8 {
				list = append(list, one)
			}
		})
	}
	return list
}

// drawnParcelVolumes returns a number of Volumes that are together at most MaxVolume, often just that.
func drawnParcelVolumes(r *rand.Rand, number int) []int {
	most := []int{number, number + 2, 20, 100, 1000, 1000}[r.Intn(6)]
	list := slices.Repeat([]int{1}, number)
	for range most - number {
		list[r.Intn(number)]++
	}
	if r.Intn(4) == 0 {
		// One Parcel gets all of another one but a unit.
		from, to := r.Intn(number), r.Intn(number)
		list[from], list[to] = 1, list[to]+list[from]-1
		if from == to {
			list[to] = 1
		}
	}
	return list
}

// drawnPipeful returns a pipeful, often of MaxParcels Parcels. In some, many Grades are equal, or all
// are small or great.
func drawnPipeful(r *rand.Rand) []impl.Parcel {
	list, span := []impl.Parcel{}, []int{2, 3, 6, 101, 10001}[r.Intn(5)]
	least := 0
	if r.Intn(3) == 0 {
		least = 10001 - span
	}
	for _, volume := range drawnParcelVolumes(r, min(1+r.Intn(10), 8)) {
		grade := least + r.Intn(span)
		for len(list) > 0 && list[len(list)-1].Grade == grade {
			grade = least + r.Intn(span)
		}
		list = append(list, parcel(volume, grade))
	}
	return list
}

// somePipefuls returns pipefuls of many kinds: known ones, small ones and drawn ones.
func somePipefuls() [][]impl.Parcel {
	list, r := append(knownPipefuls(), smallPipefuls()...), rand.New(rand.NewSource(21))
	for range 1500 {
		list = append(list, drawnPipeful(r))
	}
	return list
}

func TestTheLimitsOfParcels(t *testing.T) {
	if impl.MaxParcels != 8 || impl.MaxVolume != 1000 || impl.MaxGrade != 10000 {
		t.Error(impl.MaxParcels, impl.MaxVolume, impl.MaxGrade)
	}
}

func TestPipefuls(t *testing.T) {
	for _, list := range somePipefuls() {
		if !impl.IsPipeful(list) || !wantedPipeful(list) {
			t.Fatalf("IsPipeful(%v) = false", list)
		}
	}
	for _, list := range invalidPipefuls() {
		if impl.IsPipeful(list) || wantedPipeful(list) {
			t.Errorf("IsPipeful(%v) = true", list)
		}
	}
}

func TestPipefulsAtEachLimit(t *testing.T) {
	all, good := []impl.Parcel{}, 0
	for _, volume := range []int{-1, 0, 1, 2, 3, 499, 500, 501, 998, 999, 1000, 1001} {
		for _, grade := range []int{-1, 0, 1, 9999, 10000, 10001} {
			all = append(all, parcel(volume, grade))
		}
	}
	check := func(list []impl.Parcel) {
		got := impl.IsPipeful(list)
		if got != wantedPipeful(list) {
			t.Fatalf("IsPipeful(%v) = %v", list, got)
		}
		if got {
			good++
		}
	}
	for _, a := range all {
		check([]impl.Parcel{a})
		for _, b := range all {
			check([]impl.Parcel{a, b})
			for _, c := range all {
				check([]impl.Parcel{a, b, c})
			}
		}
	}
	if good < 1000 {
		t.Error("too few pipefuls:", good)
	}
	for number := range 20 {
		list := slices.Repeat(parcels([2]int{1, 3}, [2]int{1, 4}), 10)[:number]
		if got := impl.IsPipeful(list); got != (1 <= number && number <= 8) {
			t.Errorf("%d Parcels: %v", number, got)
		}
	}
}

func TestSomePipefulsAreOfManyKinds(t *testing.T) {
	single, eight, full, small, massless, both, twice, first, last := 0, 0, 0, 0, 0, 0, 0, 0, 0
	for _, list := range somePipefuls() {
		units, number := unitsOf(list), len(list)
		reversed := slices.Clone(units)
		slices.Reverse(reversed)
		least, smallest := slices.Min(units), 0
		for _, p := range list {
			if p.Grade == least {
				smallest++
			}
		}
		for kind, is := range map[*int]bool{
			&single: number == 1, &eight: number == 8, &full: len(units) == 1000, &small: len(units) <= 10, &massless: slices.Max(units) == 0,
			&both: number > 1 && slices.Equal(units, reversed), &twice: smallest > 1, &first: list[0].Volume == 1, &last: list[number-1].Volume > 1,
		} {
			if is {
				*kind++
			}
		}
	}
	if min(eight, full, small, twice, first, last) < 200 || single < 100 || both < 50 || massless < 9 {
		t.Error("too few of some kind:", single, eight, full, small, massless, both, twice, first, last)
	}
}

func TestKnownVolumesMassesAndMeans(t *testing.T) {
	for _, k := range []struct {
		list                   []impl.Parcel
		volume, mass, num, den int
	}{
		{threeParcels(), 20, 136, 34, 5}, {eightParcels(), 24, 108, 9, 2}, {eightParcels()[:7], 21, 84, 4, 1}, {fullEight(), 1000, 50000, 50, 1},
		// A mass of 0.
		{parcels([2]int{1, 0}), 1, 0, 0, 1}, {parcels([2]int{6, 0}), 6, 0, 0, 1}, {parcels([2]int{1000, 0}), 1000, 0, 0, 1},
		// The mass can be divided.
		{parcels([2]int{1, 10000}), 1, 10000, 10000, 1}, {parcels([2]int{1000, 10000}), 1000, 10000000, 10000, 1}, {parcels([2]int{500, 0}, [2]int{500, 10000}), 1000, 5000000, 5000, 1}, {parcels([2]int{2, 4}, [2]int{2, 6}), 4, 20, 5, 1},
		// It cannot.
		{parcels([2]int{1, 0}, [2]int{1, 1}), 2, 1, 1, 2}, {parcels([2]int{999, 0}, [2]int{1, 1}), 1000, 1, 1, 1000}, {parcels([2]int{999, 10000}, [2]int{1, 9999}), 1000, 9999999, 9999999, 1000}, {parcels([2]int{996, 10000}, [2]int{1, 9999}), 997, 9969999, 9969999, 997},
		// It can in part.
		{parcels([2]int{999, 0}, [2]int{1, 10}), 1000, 10, 1, 100}, {parcels([2]int{4, 1}, [2]int{2, 0}), 6, 4, 2, 3}, {parcels([2]int{3, 5}, [2]int{6, 2}), 9, 27, 3, 1}, {parcels([2]int{3, 4}, [2]int{6, 3}), 9, 30, 10, 3},
	} {
		if volume, mass, ok := impl.PipeVolume(k.list); !ok || volume != k.volume || mass != k.mass {
			t.Errorf("PipeVolume(%v) = %d, %d, %v, want %d, %d", k.list, volume, mass, ok, k.volume, k.mass)
		}
		if num, den, ok := impl.MeanGrade(k.list); !ok || num != k.num || den != k.den {
			t.Errorf("MeanGrade(%v) = %d, %d, %v, want %d, %d", k.list, num, den, ok, k.num, k.den)
		}
	}
}

func TestVolumesMassesAndMeansAddUpUnitByUnit(t *testing.T) {
	for _, list := range somePipefuls() {
		units := unitsOf(list)
		if volume, mass, ok := impl.PipeVolume(list); !ok || volume != len(units) || mass != total(units) {
			t.Fatalf("PipeVolume(%v) = %d, %d, %v, want %d, %d", list, volume, mass, ok, len(units), total(units))
		}
		num, den, ok := impl.MeanGrade(list)
		if !ok || !isFraction(num, den, big.NewRat(int64(total(units)), int64(len(units)))) {
			t.Fatalf("MeanGrade(%v) = %d, %d, %v, want %d / %d", list, num, den, ok, total(units), len(units))
		}
	}
}

// knownPush is a push with its results. If left is nil, it fails.
type knownPush struct {
	list       []impl.Parcel
	p          impl.Parcel
	stay, left []impl.Parcel
}

// checkKnownPush checks that a push has its results.
func checkKnownPush(t *testing.T, k knownPush) {
	t.Helper()
	stay, left, ok := impl.PushParcel(k.list, k.p)
	if ok != (k.left != nil) || !slices.Equal(stay, k.stay) || !slices.Equal(left, k.left) {
		t.Errorf("PushParcel(%v, %v) = %v, %v, %v, want %v, %v", k.list, k.p, stay, left, ok, k.stay, k.left)
	}
}

func TestKnownPushes(t *testing.T) {
	three, last := threeParcels(), [2]int{6, 1}
	five, twenty := [2]int{10, 5}, [2]int{4, 20}
	for _, k := range []knownPush{
		// With another Grade: less than the last Parcel, as much, and more; up to the whole pipeful, and more than that.
		{three, parcel(1, 7), parcels([2]int{1, 7}, five, twenty, [2]int{5, 1}), parcels([2]int{1, 1})},
		{three, parcel(5, 7), parcels([2]int{5, 7}, five, twenty, [2]int{1, 1}), parcels([2]int{5, 1})},
		{three, parcel(6, 7), parcels([2]int{6, 7}, five, twenty), parcels(last)},
		{three, parcel(7, 7), parcels([2]int{7, 7}, five, [2]int{3, 20}), parcels([2]int{1, 20}, last)},
		{three, parcel(9, 7), parcels([2]int{9, 7}, five, [2]int{1, 20}), parcels([2]int{3, 20}, last)},
		{three, parcel(10, 7), parcels([2]int{10, 7}, five), parcels(twenty, last)},
		{three, parcel(11, 7), parcels([2]int{11, 7}, [2]int{9, 5}), parcels([2]int{1, 5}, twenty, last)},
		{three, parcel(19, 7), parcels([2]int{19, 7}, [2]int{1, 5}), parcels([2]int{9, 5}, twenty, last)},
		{three, parcel(20, 7), parcels([2]int{20, 7}), three},
		{three, parcel(21, 7), parcels([2]int{20, 7}), parcels([2]int{1, 7}, five, twenty, last)},
		{three, parcel(25, 7), parcels([2]int{20, 7}), parcels([2]int{5, 7}, five, twenty, last)},
		{three, parcel(1000, 7), parcels([2]int{20, 7}), parcels([2]int{980, 7}, five, twenty, last)},
		// With the Grade of the first Parcel.
		{three, parcel(1, 5), parcels([2]int{11, 5}, twenty, [2]int{5, 1}), parcels([2]int{1, 1})},
		{three, parcel(6, 5), parcels([2]int{16, 5}, twenty), parcels(last)},
		{three, parcel(8, 5), parcels([2]int{18, 5}, [2]int{2, 20}), parcels([2]int{2, 20}, last)},
		{three, parcel(10, 5), parcels([2]int{20, 5}), parcels(twenty, last)},
		{three, parcel(11, 5), parcels([2]int{20, 5}), parcels([2]int{1, 5}, twenty, last)},
		{three, parcel(20, 5), parcels([2]int{20, 5}), three},
		{three, parcel(21, 5), parcels([2]int{20, 5}), parcels([2]int{11, 5}, twenty, last)},
		{three, parcel(1000, 5), parcels([2]int{20, 5}), parcels([2]int{990, 5}, twenty, last)},
		// With the Grade of the last Parcel, or of the middle one.
		{three, parcel(3, 1), parcels([2]int{3, 1}, five, twenty, [2]int{3, 1}), parcels([2]int{3, 1})},
		{three, parcel(6, 1), parcels(last, five, twenty), parcels(last)},
		{three, parcel(8, 20), parcels([2]int{8, 20}, five, [2]int{2, 20}), parcels([2]int{2, 20}, last)},
		{three, parcel(21, 1), parcels([2]int{20, 1}), parcels([2]int{1, 1}, five, twenty, last)},
		{three, parcel(20, 20), parcels([2]int{20, 20}), three},
		// One Parcel in the pipe.
		{parcels([2]int{1, 0}), parcel(1, 0), parcels([2]int{1, 0}), parcels([2]int{1, 0})},
		{parcels([2]int{1, 0}), parcel(1, 10000), parcels([2]int{1, 10000}), parcels([2]int{1, 0})},
		{parcels([2]int{1, 0}), parcel(2, 0), parcels([2]int{1, 0}), parcels([2]int{2, 0})},
		{parcels([2]int{1, 0}), parcel(2, 1), parcels([2]int{1, 1}), parcels([2]int{1, 1}, [2]int{1, 0})},
		{parcels([2]int{1, 3}), parcel(1000, 3), parcels([2]int{1, 3}), parcels([2]int{1000, 3})},
		{parcels([2]int{1, 3}), parcel(1000, 4), parcels([2]int{1, 4}), parcels([2]int{999, 4}, [2]int{1, 3})},
		{parcels([2]int{1000, 3}), parcel(1, 3), parcels([2]int{1000, 3}), parcels([2]int{1, 3})},
		{parcels([2]int{1000, 3}), parcel(1, 4), parcels([2]int{1, 4}, [2]int{999, 3}), parcels([2]int{1, 3})},
		{parcels([2]int{1000, 3}), parcel(999, 4), parcels([2]int{999, 4}, [2]int{1, 3}), parcels([2]int{999, 3})},
		{parcels([2]int{1000, 10000}), parcel(1000, 10000), parcels([2]int{1000, 10000}), parcels([2]int{1000, 10000})},
		{parcels([2]int{1000, 10000}), parcel(1000, 0), parcels([2]int{1000, 0}), parcels([2]int{1000, 10000})},
		{parcels([2]int{1000, 10000}), parcel(1000, 9999), parcels([2]int{1000, 9999}), parcels([2]int{1000, 10000})},
		// No Parcels, that is not valid ones.
		{three, parcel(0, 5), nil, nil}, {three, parcel(0, 7), nil, nil}, {three, parcel(-1, 7), nil, nil}, {three, parcel(1001, 7), nil, nil}, {three, parcel(1001, 5), nil, nil},
		{three, parcel(6, -1), nil, nil}, {three, parcel(6, 10001), nil, nil}, {three, parcel(0, 0), nil, nil}, {parcels([2]int{1000, 7}), parcel(1001, 7), nil, nil},
	} {
		checkKnownPush(t, k)
	}
}

func TestKnownPushesIntoManyParcels(t *testing.T) {
	eight := eightParcels()
	with := func(first impl.Parcel, others []impl.Parcel, more ...impl.Parcel) []impl.Parcel {
		return slices.Concat([]impl.Parcel{first}, others, more)
	}
	for _, k := range []knownPush{
		// One Parcel more than MaxParcels, as a part of the last one is left.
		{eight, parcel(1, 9), nil, nil}, {eight, parcel(2, 9), nil, nil}, {eight, parcel(1, 8), nil, nil}, {eight, parcel(2, 8), nil, nil}, {eight, parcel(2, 0), nil, nil}, {eight, parcel(2, 10000), nil, nil}, {eight, parcel(2, 2), nil, nil},
		// MaxParcels, as the last one leaves whole, with others or without.
		{eight, parcel(3, 9), with(parcel(3, 9), eight[:7]), eight[7:]},
		{eight, parcel(3, 8), with(parcel(3, 8), eight[:7]), eight[7:]},
		{eight, parcel(4, 9), with(parcel(4, 9), eight[:6], parcel(2, 7)), with(parcel(1, 7), eight[7:])},
		{eight, parcel(5, 9), with(parcel(5, 9), eight[:6], parcel(1, 7)), with(parcel(2, 7), eight[7:])},
		// MaxParcels, as the first one is joined.
		{eight, parcel(1, 1), with(parcel(4, 1), eight[1:7], parcel(2, 8)), parcels([2]int{1, 8})},
		{eight, parcel(2, 1), with(parcel(5, 1), eight[1:7], parcel(1, 8)), parcels([2]int{2, 8})},
		// Fewer.
		{eight, parcel(3, 1), with(parcel(6, 1), eight[1:7]), eight[7:]},
		{eight, parcel(6, 9), with(parcel(6, 9), eight[:6]), eight[6:]},
		{eight, parcel(23, 9), parcels([2]int{23, 9}, [2]int{1, 1}), with(parcel(2, 1), eight[1:])},
		// All of them leave, MaxParcels, one more with a part of what is pushed in, or not as that is joined.
		{eight, parcel(24, 9), parcels([2]int{24, 9}), eight},
		{eight, parcel(24, 1), parcels([2]int{24, 1}), eight},
		{eight, parcel(25, 9), parcels([2]int{24, 9}), with(parcel(1, 9), eight)},
		{eight, parcel(1000, 9), parcels([2]int{24, 9}), with(parcel(976, 9), eight)},
		{eight, parcel(25, 1), parcels([2]int{24, 1}), with(parcel(4, 1), eight[1:])},
		{eight, parcel(1000, 1), parcels([2]int{24, 1}), with(parcel(979, 1), eight[1:])},
		// MaxParcels from one less.
		{eight[:7], parcel(1, 9), with(parcel(1, 9), eight[:6], parcel(2, 7)), parcels([2]int{1, 7})},
		{eight[:7], parcel(3, 9), with(parcel(3, 9), eight[:6]), eight[6:7]},
		{eight[:7], parcel(22, 9), parcels([2]int{21, 9}), with(parcel(1, 9), eight[:7])},
		{eight[:7], parcel(2, 1), with(parcel(5, 1), eight[1:6], parcel(1, 7)), parcels([2]int{2, 7})},
		// The last one has one unit.
		{fullEight(), parcel(1, 5), with(parcel(1, 5), fullEight()[:7]), fullEight()[7:]},
		{fullEight(), parcel(1, 10000), with(parcel(2, 10000), fullEight()[1:7]), fullEight()[7:]},
		{fullEight(), parcel(1000, 5), parcels([2]int{1000, 5}), fullEight()},
		{fullEight(), parcel(1000, 10000), parcels([2]int{1000, 10000}), fullEight()},
		{fullEight(), parcel(999, 0), parcels([2]int{999, 0}, [2]int{1, 10000}), fullEight()[1:]},
	} {
		checkKnownPush(t, k)
	}
}

// checkPush checks a push unit by unit, and returns its results.
func checkPush(t *testing.T, list []impl.Parcel, p impl.Parcel) ([]impl.Parcel, []impl.Parcel, bool) {
	t.Helper()
	before := unitsOf(list)
	units := append(unitsOf([]impl.Parcel{p}), before...)
	wantedStay, wantedLeft := parcelsOf(units[:len(before)]), parcelsOf(units[len(before):])
	stay, left, ok := impl.PushParcel(list, p)
	if len(wantedStay) > 8 {
		if ok || len(stay) != 0 || len(left) != 0 {
			t.Fatalf("PushParcel(%v, %v) = %v, %v, %v", list, p, stay, left, ok)
		}
		return stay, left, false
	}
	if !ok || !slices.Equal(stay, wantedStay) || !slices.Equal(left, wantedLeft) {
		t.Fatalf("PushParcel(%v, %v) = %v, %v, %v, want %v, %v", list, p, stay, left, ok, wantedStay, wantedLeft)
	}
	// What leaves may be one Parcel too many for a pipeful, but is like one otherwise.
	if !wantedPipeful(stay) || !impl.IsPipeful(stay) || !wantedPipeful(left) && !(len(left) == 9 && wantedPipeful(left[:8]) && wantedPipeful(left[1:])) {
		t.Fatalf("PushParcel(%v, %v) = %v, %v, %v", list, p, stay, left, ok)
	}
	if !slices.Equal(append(unitsOf(stay), unitsOf(left)...), units) {
		t.Fatalf("PushParcel(%v, %v) = %v, %v: not all units are kept", list, p, stay, left)
	}
	volume, mass, _ := impl.PipeVolume(list)
	after, massAfter, _ := impl.PipeVolume(stay)
	massLeft := 0
	for _, q := range left {
		massLeft += q.Volume * q.Grade
	}
	if after != volume || mass+p.Volume*p.Grade != massAfter+massLeft {
		t.Fatalf("PushParcel(%v, %v) = %v, %v: the mass or the volume is another one", list, p, stay, left)
	}
	return stay, left, true
}

// pushesFor returns valid Parcels around the borders of a pipeful, with Grades that occur in it and
// others.
func pushesFor(list []impl.Parcel, r *rand.Rand) []impl.Parcel {
	first, last, volume := list[0], list[len(list)-1], len(unitsOf(list))
	grades := []int{first.Grade, last.Grade, list[r.Intn(len(list))].Grade, r.Intn(10001), []int{0, 10000}[r.Intn(2)]}
	pushed := []impl.Parcel{}
	for _, number := range []int{1, 2, last.Volume - 1, last.Volume, last.Volume + 1, volume - first.Volume, volume - first.Volume + 1, volume - 1, volume, volume + 1, 1 + r.Intn(volume), 1 + r.Intn(1000), 999, 1000} {
		if 1 <= number && number <= 1000 {
			pushed = append(pushed, parcel(number, grades[r.Intn(5)]), parcel(number, grades[r.Intn(3)]))
		}
	}
	return pushed
}

func TestNothingIsLostByAPush(t *testing.T) {
	r := rand.New(rand.NewSource(22))
	ended, full, refused, nine, joined, beyond, exact, same := 0, 0, 0, 0, 0, 0, 0, 0
	for _, list := range somePipefuls() {
		units := len(unitsOf(list))
		for _, p := range pushesFor(list, r) {
			stay, left, ok := checkPush(t, list, p)
			for kind, is := range map[*int]bool{
				&ended: ok, &full: len(stay) == 8, &refused: !ok, &nine: len(left) == 9, &joined: ok && p.Grade == list[0].Grade,
				&beyond: p.Volume > units, &exact: p.Volume == units, &same: ok && left[len(left)-1].Grade == p.Grade && len(list) > 1,
			} {
				if is {
					*kind++
				}
			}
		}
	}
	if ended < 50000 || min(full, refused, nine, joined, beyond, exact, same) < 500 {
		t.Error("too few of some kind:", ended, full, refused, nine, joined, beyond, exact, same)
	}
}

func TestAllPushesIntoSmallPipefuls(t *testing.T) {
	for i, list := range smallPipefuls() {
		for volume := 1; volume <= 11; volume++ {
			for grade := range 4 {
				checkPush(t, list, parcel(volume, grade))
			}
		}
		if i%100 == 0 {
			for volume := 1; volume <= 1000; volume++ {
				checkPush(t, list, parcel(volume, i%3))
			}
		}
	}
}

func TestAllVolumesPushedIntoKnownPipefuls(t *testing.T) {
	for _, list := range knownPipefuls() {
		for volume := 1; volume <= 1000; volume++ {
			checkPush(t, list, parcel(volume, list[0].Grade))
			checkPush(t, list, parcel(volume, list[len(list)-1].Grade))
			checkPush(t, list, parcel(volume, 77))
		}
	}
}

func TestNothingIsLostByManyPushes(t *testing.T) {
	r := rand.New(rand.NewSource(23))
	ended, refused := 0, 0
	for _, start := range somePipefuls() {
		list, inside, outside := start, [][]int{unitsOf(start)}, [][]int{}
		for range 20 {
			pushed := pushesFor(list, r)
			p := pushed[r.Intn(len(pushed))]
			if r.Intn(4) > 0 {
				p.Volume = 1 + r.Intn(5)
			}
			stay, left, ok := impl.PushParcel(list, p)
			if !ok {
				refused++
				continue
			}
			ended++
			list = stay
			// What was pushed in later lies before what was pushed in earlier, and leaves behind it.
			inside, outside = append(inside, unitsOf([]impl.Parcel{p})), append(outside, unitsOf(left))
		}
		slices.Reverse(inside)
		slices.Reverse(outside)
		if all := append(unitsOf(list), slices.Concat(outside...)...); !slices.Equal(all, slices.Concat(inside...)) {
			t.Fatalf("after pushes into %v there are %v, and %v have left", start, list, outside)
		}
	}
	if min(ended, refused) < 500 {
		t.Error("too few of some kind:", ended, refused)
	}
}

func TestPushingTwoParcelsOfOneGradeIsPushingOne(t *testing.T) {
	r := rand.New(rand.NewSource(24))
	compared := 0
	for _, list := range somePipefuls() {
		grade, first, second := list[r.Intn(len(list))].Grade+r.Intn(2), 1+r.Intn(20), 1+r.Intn(20)
		if grade > 10000 {
			continue
		}
		half, leftFirst, ok := impl.PushParcel(list, parcel(first, grade))
		if !ok {
			continue
		}
		stay, leftThen, ok := impl.PushParcel(half, parcel(second, grade))
		once, left, good := impl.PushParcel(list, parcel(first+second, grade))
		if !ok || !good || !slices.Equal(stay, once) || !slices.Equal(parcelsOf(append(unitsOf(leftThen), unitsOf(leftFirst)...)), left) {
			t.Fatalf("%d and %d of the Grade %d into %v: %v, %v, %v, want %v, %v", first, second, grade, list, stay, leftThen, leftFirst, once, left)
		}
		compared++
	}
	if compared < 1000 {
		t.Error("too few pushes:", compared)
	}
}

func TestKnownDecays(t *testing.T) {
	five := parcels([2]int{50, 99}, [2]int{50, 98}, [2]int{50, 97}, [2]int{50, 96}, [2]int{50, 95})
	for _, k := range []struct {
		list     []impl.Parcel
		num, den int
		want     []impl.Parcel
	}{
		// Fractions of 0 and of 1.
		{threeParcels(), 0, 1, parcels([2]int{20, 0})}, {threeParcels(), 0, 100, parcels([2]int{20, 0})}, {threeParcels(), 1, 1, threeParcels()}, {threeParcels(), 100, 100, threeParcels()}, {threeParcels(), 7, 7, threeParcels()},
		{eightParcels(), 0, 1, parcels([2]int{24, 0})}, {eightParcels(), 1, 1, eightParcels()}, {fullEight(), 0, 3, parcels([2]int{1000, 0})}, {fullEight(), 3, 3, fullEight()},
		// Fractions between.
		{threeParcels(), 1, 5, parcels([2]int{10, 1}, [2]int{4, 4}, [2]int{6, 0})}, {threeParcels(), 1, 2, parcels([2]int{10, 2}, [2]int{4, 10}, [2]int{6, 0})}, {threeParcels(), 99, 100, parcels([2]int{10, 4}, [2]int{4, 19}, [2]int{6, 0})},
		{threeParcels(), 3, 4, parcels([2]int{10, 3}, [2]int{4, 15}, [2]int{6, 0})}, {threeParcels(), 4, 5, parcels([2]int{10, 4}, [2]int{4, 16}, [2]int{6, 0})}, {threeParcels(), 5, 6, parcels([2]int{10, 4}, [2]int{4, 16}, [2]int{6, 0})},
		// Two neighbors are joined, the first ones, the last ones, or several twos.
		{threeParcels(), 1, 6, parcels([2]int{10, 0}, [2]int{4, 3}, [2]int{6, 0})}, {threeParcels(), 1, 20, parcels([2]int{10, 0}, [2]int{4, 1}, [2]int{6, 0})}, {parcels([2]int{1, 2}, [2]int{2, 3}, [2]int{4, 9}), 1, 2, parcels([2]int{3, 1}, [2]int{4, 4})}, {parcels([2]int{1, 9}, [2]int{2, 3}, [2]int{4, 2}), 1, 2, parcels([2]int{1, 4}, [2]int{6, 1})},
		{eightParcels(), 1, 2, parcels([2]int{3, 0}, [2]int{6, 1}, [2]int{6, 2}, [2]int{6, 3}, [2]int{3, 4})}, {five, 1, 2, parcels([2]int{100, 49}, [2]int{100, 48}, [2]int{50, 47})},
		// Three are joined, and more.
		{eightParcels(), 1, 3, parcels([2]int{6, 0}, [2]int{9, 1}, [2]int{9, 2})}, {eightParcels(), 1, 4, parcels([2]int{9, 0}, [2]int{12, 1}, [2]int{3, 2})}, {eightParcels(), 1, 8, parcels([2]int{21, 0}, [2]int{3, 1})}, {five, 1, 32, parcels([2]int{200, 3}, [2]int{50, 2})},
		// All are joined.
		{threeParcels(), 1, 21, parcels([2]int{20, 0})}, {threeParcels(), 1, 100, parcels([2]int{20, 0})}, {eightParcels(), 1, 9, parcels([2]int{24, 0})}, {five, 1, 25, parcels([2]int{250, 3})}, {five, 1, 100, parcels([2]int{250, 0})}, {five, 2, 100, parcels([2]int{250, 1})},
		{parcels([2]int{500, 10000}, [2]int{500, 9999}), 1, 100, parcels([2]int{500, 100}, [2]int{500, 99})}, {parcels([2]int{500, 9998}, [2]int{500, 9999}), 1, 100, parcels([2]int{1000, 99})},
		// Equal ones that are not neighbors stay apart.
		{parcels([2]int{1, 4}, [2]int{1, 9}, [2]int{1, 5}), 1, 2, parcels([2]int{1, 2}, [2]int{1, 4}, [2]int{1, 2})},
		// One Parcel.
		{parcels([2]int{1, 0}), 1, 2, parcels([2]int{1, 0})}, {parcels([2]int{1, 1}), 99, 100, parcels([2]int{1, 0})}, {parcels([2]int{1000, 10000}), 99, 100, parcels([2]int{1000, 9900})}, {parcels([2]int{1000, 10000}), 1, 3, parcels([2]int{1000, 3333})}, {parcels([2]int{1000, 10000}), 2, 3, parcels([2]int{1000, 6666})}, {parcels([2]int{1000, 10000}), 98, 99, parcels([2]int{1000, 9898})},
	} {
		if got, ok := impl.DecayParcels(k.list, k.num, k.den); !ok || !slices.Equal(got, k.want) {
			t.Errorf("DecayParcels(%v, %d, %d) = %v, %v, want %v", k.list, k.num, k.den, got, ok, k.want)
		}
	}
}

// wantedDecay returns the greatest whole number that is at most grade * num / den.
func wantedDecay(grade int, num int, den int) int {
	return sort.Search(grade+1, func(number int) bool { return number*den > grade*num }) - 1
}

// checkDecay checks an hour of decay, and returns how many Parcels are joined.
func checkDecay(t *testing.T, list []impl.Parcel, num int, den int) int {
	t.Helper()
	want := []impl.Parcel{}
	for _, p := range list {
		grade := wantedDecay(p.Grade, num, den)
		if len(want) == 0 || want[len(want)-1].Grade != grade {
			want = append(want, parcel(0, grade))
		}
		want[len(want)-1].Volume += p.Volume
	}
	got, ok := impl.DecayParcels(list, num, den)
	if !ok || !slices.Equal(got, want) || !wantedPipeful(got) || !impl.IsPipeful(got) {
		t.Fatalf("DecayParcels(%v, %d, %d) = %v, %v, want %v", list, num, den, got, ok, want)
	}
	volume, mass, _ := impl.PipeVolume(list)
	after, massAfter, _ := impl.PipeVolume(got)
	if after != volume || massAfter > mass || massAfter*den > mass*num {
		t.Fatalf("DecayParcels(%v, %d, %d) = %v, with %d units and the mass %d", list, num, den, got, after, massAfter)
	}
	return len(list) - len(got)
}

func TestKnownPipefulsDecayByEveryFraction(t *testing.T) {
	for _, list := range knownPipefuls() {
		for den := 1; den <= 100; den++ {
			for num := range den + 1 {
				checkDecay(t, list, num, den)
			}
		}
	}
}

func TestSomePipefulsDecay(t *testing.T) {
	r := rand.New(rand.NewSource(25))
	joined := [8]int{}
	for _, list := range somePipefuls() {
		if checkDecay(t, list, 1, 1) != 0 || checkDecay(t, list, 0, 1) != len(list)-1 {
			t.Fatal("not joined rightly:", list)
		}
		for _, pair := range [][2]int{{0, 100}, {1, 2}, {1, 3}, {2, 3}, {99, 100}, {100, 100}, {1, 100}, {50, 100}, {98, 99}} {
			joined[checkDecay(t, list, pair[0], pair[1])]++
		}
		for range 10 {
			den := 1 + r.Intn(100)
			joined[checkDecay(t, list, r.Intn(den+1), den)]++
		}
	}
	if slices.Min(joined[:]) < 100 {
		t.Error("too few of some kind:", joined)
	}
}

func TestUnitsDecayEachForItself(t *testing.T) {
	for i, list := range somePipefuls() {
		units, num, den := unitsOf(list), i%7, 7+i%13
		got, _ := impl.DecayParcels(list, num, den)
		for at, grade := range units {
			units[at] = wantedDecay(grade, num, den)
		}
		if !slices.Equal(got, parcelsOf(units)) {
			t.Fatalf("DecayParcels(%v, %d, %d) = %v, want %v", list, num, den, got, parcelsOf(units))
		}
	}
}

func TestFractionsOfDecay(t *testing.T) {
	for _, list := range [][]impl.Parcel{threeParcels(), parcels([2]int{1, 0}), fullEight()} {
		for num := -3; num <= 104; num++ {
			for den := -3; den <= 104; den++ {
				if 0 <= num && num <= den && 1 <= den && den <= 100 {
					checkDecay(t, list, num, den)
				} else {
					checkNoDecay(t, list, num, den)
				}
			}
		}
	}
}

func TestKnownGrades(t *testing.T) {
	for _, k := range []struct {
		list   []impl.Parcel
		grades map[int]int
	}{
		// -1 stands for none.
		{threeParcels(), map[int]int{-1: -1, 0: 5, 1: 5, 8: 5, 9: 5, 10: 20, 11: 20, 13: 20, 14: 1, 15: 1, 18: 1, 19: 1, 20: -1, 21: -1}},
		{eightParcels(), map[int]int{-1: -1, 0: 1, 2: 1, 3: 2, 5: 2, 6: 3, 8: 3, 9: 4, 11: 4, 12: 5, 14: 5, 15: 6, 17: 6, 18: 7, 20: 7, 21: 8, 23: 8, 24: -1}},
		{fullEight(), map[int]int{-1: -1, 0: 10000, 1: 0, 2: 0, 993: 0, 994: 10000, 995: 9999, 996: 10000, 997: 1, 998: 0, 999: 10000, 1000: -1, 1001: -1}},
		{parcels([2]int{1, 0}), map[int]int{-1: -1, 0: 0, 1: -1, 2: -1}}, {parcels([2]int{1, 10000}), map[int]int{-1: -1, 0: 10000, 1: -1}},
		{parcels([2]int{1000, 3}), map[int]int{-1: -1, 0: 3, 1: 3, 998: 3, 999: 3, 1000: -1, 1001: -1}},
	} {
		for at, want := range k.grades {
			if got, ok := impl.GradeAt(k.list, at); ok != (want >= 0) || got != max(want, 0) {
				t.Errorf("GradeAt(%v, %d) = %d, %v, want %d", k.list, at, got, ok, want)
			}
		}
	}
}

func TestGradesOfAllUnits(t *testing.T) {
	for _, list := range somePipefuls() {
		units := unitsOf(list)
		for at, grade := range units {
			if got, ok := impl.GradeAt(list, at); !ok || got != grade {
				t.Fatalf("GradeAt(%v, %d) = %d, %v, want %d", list, at, got, ok, grade)
			}
		}
		for _, at := range []int{-1, -2, -len(units), len(units), len(units) + 1, 2 * len(units), 1000, 1001, 1 << 32, -1 << 32, 1<<32 + 1, math.MinInt, math.MinInt + 1, math.MaxInt} {
			checkNoGrade(t, list, at)
		}
	}
}

func TestKnownPipefulsInTheOppositeOrder(t *testing.T) {
	for _, k := range []struct{ list, want []impl.Parcel }{
		{threeParcels(), parcels([2]int{6, 1}, [2]int{4, 20}, [2]int{10, 5})},
		{parcels([2]int{1, 0}), parcels([2]int{1, 0})}, {parcels([2]int{1000, 10000}), parcels([2]int{1000, 10000})},
		{parcels([2]int{1, 0}, [2]int{999, 10000}), parcels([2]int{999, 10000}, [2]int{1, 0})},
		{eightParcels(), parcels([2]int{3, 8}, [2]int{3, 7}, [2]int{3, 6}, [2]int{3, 5}, [2]int{3, 4}, [2]int{3, 3}, [2]int{3, 2}, [2]int{3, 1})},
		{eightParcels()[:7], parcels([2]int{3, 7}, [2]int{3, 6}, [2]int{3, 5}, [2]int{3, 4}, [2]int{3, 3}, [2]int{3, 2}, [2]int{3, 1})},
		// The same in both directions, or in its Grades only.
		{parcels([2]int{2, 4}, [2]int{3, 5}, [2]int{2, 4}), parcels([2]int{2, 4}, [2]int{3, 5}, [2]int{2, 4})},
		{parcels([2]int{1, 0}, [2]int{2, 1}, [2]int{3, 2}, [2]int{2, 1}, [2]int{1, 0}), parcels([2]int{1, 0}, [2]int{2, 1}, [2]int{3, 2}, [2]int{2, 1}, [2]int{1, 0})},
		{parcels([2]int{2, 4}, [2]int{3, 5}, [2]int{1, 4}), parcels([2]int{1, 4}, [2]int{3, 5}, [2]int{2, 4})},
	} {
		if got, ok := impl.ReversePipe(k.list); !ok || !slices.Equal(got, k.want) {
			t.Errorf("ReversePipe(%v) = %v, %v, want %v", k.list, got, ok, k.want)
		}
	}
}

func TestReversedPipefulsHaveTheUnitsInTheOppositeOrder(t *testing.T) {
	for _, list := range somePipefuls() {
		units := unitsOf(list)
		slices.Reverse(units)
		got, ok := impl.ReversePipe(list)
		if !ok || !slices.Equal(unitsOf(got), units) || !slices.Equal(got, parcelsOf(units)) || !impl.IsPipeful(got) {
			t.Fatalf("ReversePipe(%v) = %v, %v", list, got, ok)
		}
		if again, ok := impl.ReversePipe(got); !ok || !slices.Equal(again, list) {
			t.Fatalf("ReversePipe(%v) = %v, %v, want %v", got, again, ok, list)
		}
	}
}

func TestKnownLeastGrades(t *testing.T) {
	for _, k := range []struct {
		list      []impl.Parcel
		grade, at int
	}{
		// Only the last Parcel, only the first one, only one between.
		{threeParcels(), 1, 14}, {eightParcels(), 1, 0}, {parcels([2]int{4, 8}, [2]int{3, 2}, [2]int{2, 3}), 2, 4}, {parcels([2]int{3, 400}, [2]int{1, 30}, [2]int{2, 2}, [2]int{5, 1}), 1, 6},
		// Several.
		{parcels([2]int{3, 8}, [2]int{2, 3}, [2]int{4, 9}, [2]int{1, 3}), 3, 3}, {parcels([2]int{3, 3}, [2]int{2, 8}, [2]int{4, 3}, [2]int{1, 9}, [2]int{7, 3}), 3, 0}, {fullEight(), 0, 1}, {parcels([2]int{9, 1}, [2]int{1, 0}, [2]int{5, 1}, [2]int{2, 0}), 0, 9},
		// One Parcel.
		{parcels([2]int{1, 0}), 0, 0}, {parcels([2]int{1, 10000}), 10000, 0}, {parcels([2]int{1000, 10000}), 10000, 0},
		// The greatest Grades, and the last unit.
		{parcels([2]int{999, 10000}, [2]int{1, 9999}), 9999, 999}, {parcels([2]int{1, 9999}, [2]int{999, 10000}), 9999, 0}, {parcels([2]int{999, 10000}, [2]int{1, 0}), 0, 999},
	} {
		if grade, at, ok := impl.LeastGrade(k.list); !ok || grade != k.grade || at != k.at {
			t.Errorf("LeastGrade(%v) = %d, %d, %v, want %d, %d", k.list, grade, at, ok, k.grade, k.at)
		}
	}
}

func TestLeastGradesOfAllUnits(t *testing.T) {
	for _, list := range somePipefuls() {
		units := unitsOf(list)
		least := slices.Min(units)
		if grade, at, ok := impl.LeastGrade(list); !ok || grade != least || at != slices.Index(units, least) {
			t.Fatalf("LeastGrade(%v) = %d, %d, %v, want %d, %d", list, grade, at, ok, least, slices.Index(units, least))
		}
	}
}

func TestKnownFlushVolumes(t *testing.T) {
	for _, k := range []struct {
		list    []impl.Parcel
		volumes map[int]int
	}{
		// -1 stands for none.
		{threeParcels(), map[int]int{-1: -1, 0: 20, 1: 20, 4: 20, 5: 10, 6: 10, 19: 10, 20: 0, 21: 0, 9999: 0, 10000: 0, 10001: -1}},
		{eightParcels(), map[int]int{-1: -1, 0: 24, 1: 21, 2: 18, 3: 15, 4: 12, 5: 9, 6: 6, 7: 3, 8: 0, 9: 0, 10000: 0, 10001: -1}},
		{fullEight(), map[int]int{-1: -1, 0: 1000, 1: 1000, 9998: 1000, 9999: 1000, 10000: 0, 10001: -1}},
		// Only the first Parcel exceeds it, or only the last one.
		{parcels([2]int{3, 400}, [2]int{1, 30}, [2]int{2, 2}, [2]int{5, 1}), map[int]int{399: 11, 30: 11, 400: 0}},
		{parcels([2]int{3, 1}, [2]int{1, 2}, [2]int{2, 30}, [2]int{5, 400}), map[int]int{0: 11, 1: 8, 2: 7, 29: 7, 30: 5, 399: 5, 400: 0}},
		{parcels([2]int{999, 10000}, [2]int{1, 0}), map[int]int{0: 1000, 9999: 1000, 10000: 0}}, {parcels([2]int{1, 9999}, [2]int{999, 10000}), map[int]int{9998: 1000, 9999: 999, 10000: 0}}, {parcels([2]int{999, 0}, [2]int{1, 10000}), map[int]int{0: 1, 1: 1, 9999: 1, 10000: 0}},
		// The first of several that exceed it counts, also with others between.
		{parcels([2]int{3, 3}, [2]int{2, 8}, [2]int{4, 3}, [2]int{1, 9}, [2]int{7, 3}), map[int]int{2: 17, 3: 14, 7: 14, 8: 8, 9: 0}},
		// One Parcel.
		{parcels([2]int{1, 0}), map[int]int{-1: -1, 0: 0, 10000: 0, 10001: -1}}, {parcels([2]int{1, 1}), map[int]int{0: 1, 1: 0}}, {parcels([2]int{1000, 10000}), map[int]int{0: 1000, 9999: 1000, 10000: 0, 10001: -1}}, {parcels([2]int{1000, 0}), map[int]int{-1: -1, 0: 0}},
	} {
		for limit, want := range k.volumes {
			if got, ok := impl.FlushVolume(k.list, limit); ok != (want >= 0) || got != max(want, 0) {
				t.Errorf("FlushVolume(%v, %d) = %d, %v, want %d", k.list, limit, got, ok, want)
			}
		}
	}
}

// limitsFor returns limits at the Grades of a pipeful, beside them and at both ends of the range.
func limitsFor(list []impl.Parcel) []int {
	limits := []int{0, 1, 5000, 9999, 10000}
	for _, p := range list {
		for _, limit := range []int{p.Grade - 1, p.Grade, p.Grade + 1} {
			if 0 <= limit && limit <= 10000 {
				limits = append(limits, limit)
			}
		}
	}
	return limits
}

// isAboveLimit reports whether one of some units is above a limit.
func isAboveLimit(units []int, limit int) bool {
	return slices.ContainsFunc(units, func(grade int) bool { return grade > limit })
}

// checkFlushed checks whether a unit above the limit is still there after a volume of clean water is
// pushed in, and returns whether this can be pushed in.
func checkFlushed(t *testing.T, list []impl.Parcel, limit int, volume int, isAbove bool) bool {
	t.Helper()
	stay := list
	if volume > 0 {
		after, _, ok := impl.PushParcel(list, parcel(volume, 0))
		if !ok {
			return false
		}
		stay = after
	}
	// Clean water is never above the limit, so only what was in the pipe before counts.
	if isAboveLimit(unitsOf(stay), limit) != isAbove {
		t.Fatalf("with %d units of clean water, %v becomes %v", volume, list, stay)
	}
	return true
}

func TestFlushVolumesAreTheSmallest(t *testing.T) {
	none, some, all, flushed, above := 0, 0, 0, 0, 0
	for _, list := range somePipefuls() {
		units := unitsOf(list)
		for _, limit := range limitsFor(list) {
			// With one unit less than the first volume that is enough, it is not enough.
			want := 0
			for isAboveLimit(units[:len(units)-want], limit) {
				want++
			}
			got, ok := impl.FlushVolume(list, limit)
			if !ok || got != want {
				t.Fatalf("FlushVolume(%v, %d) = %d, %v, want %d", list, limit, got, ok, want)
			}
			for kind, is := range map[*int]bool{
				&none: want == 0, &some: 0 < want && want < len(units), &all: want == len(units),
				&flushed: checkFlushed(t, list, limit, got, false), &above: got > 0 && checkFlushed(t, list, limit, got-1, true),
			} {
				if is {
					*kind++
				}
			}
		}
	}
	if min(none, some, all, flushed, above) < 1000 {
		t.Error("too few of some kind:", none, some, all, flushed, above)
	}
}

func TestAllLimitsOfKnownPipefuls(t *testing.T) {
	for _, list := range knownPipefuls() {
		units := unitsOf(list)
		for limit := range 10001 {
			want := 0
			if first := slices.IndexFunc(units, func(grade int) bool { return grade > limit }); first >= 0 {
				want = len(units) - first
			}
			if got, ok := impl.FlushVolume(list, limit); !ok || got != want {
				t.Fatalf("FlushVolume(%v, %d) = %d, %v, want %d", list, limit, got, ok, want)
			}
		}
	}
}

// checkNoPush checks that a Parcel cannot be pushed in.
func checkNoPush(t *testing.T, list []impl.Parcel, p impl.Parcel) {
	t.Helper()
	if stay, left, ok := impl.PushParcel(list, p); ok || len(stay) != 0 || len(left) != 0 {
		t.Errorf("PushParcel(%v, %v) = %v, %v, %v", list, p, stay, left, ok)
	}
}

// checkNoDecay checks that a list cannot decay by a fraction.
func checkNoDecay(t *testing.T, list []impl.Parcel, num int, den int) {
	t.Helper()
	if decayed, ok := impl.DecayParcels(list, num, den); ok || len(decayed) != 0 {
		t.Errorf("DecayParcels(%v, %d, %d) = %v, %v", list, num, den, decayed, ok)
	}
}

// checkNoGrade checks that there is no unit at an index.
func checkNoGrade(t *testing.T, list []impl.Parcel, at int) {
	t.Helper()
	if grade, ok := impl.GradeAt(list, at); ok || grade != 0 {
		t.Errorf("GradeAt(%v, %d) = %d, %v", list, at, grade, ok)
	}
}

// checkNoFlush checks that there is no volume to flush for a limit.
func checkNoFlush(t *testing.T, list []impl.Parcel, limit int) {
	t.Helper()
	if volume, ok := impl.FlushVolume(list, limit); ok || volume != 0 {
		t.Errorf("FlushVolume(%v, %d) = %d, %v", list, limit, volume, ok)
	}
}

// checkNoPipeful checks that every function returns zero values for a list that is no pipeful.
func checkNoPipeful(t *testing.T, list []impl.Parcel) {
	t.Helper()
	if impl.IsPipeful(list) {
		t.Errorf("IsPipeful(%v) = true", list)
	}
	if volume, mass, ok := impl.PipeVolume(list); ok || volume != 0 || mass != 0 {
		t.Errorf("PipeVolume(%v) = %d, %d, %v", list, volume, mass, ok)
	}
	if num, den, ok := impl.MeanGrade(list); ok || num != 0 || den != 0 {
		t.Errorf("MeanGrade(%v) = %d, %d, %v", list, num, den, ok)
	}
	if reversed, ok := impl.ReversePipe(list); ok || len(reversed) != 0 {
		t.Errorf("ReversePipe(%v) = %v, %v", list, reversed, ok)
	}
	if grade, at, ok := impl.LeastGrade(list); ok || grade != 0 || at != 0 {
		t.Errorf("LeastGrade(%v) = %d, %d, %v", list, grade, at, ok)
	}
	for _, number := range []int{0, 1, 2, 3, 5, 10, 19, 20, 999, 1000, 10000} {
		checkNoGrade(t, list, number)
		checkNoFlush(t, list, number)
		checkNoPush(t, list, parcel(min(number, 999)+1, number))
		checkNoPush(t, list, parcel(1000, number))
		checkNoDecay(t, list, min(number, 100), 100)
	}
	checkNoDecay(t, list, 0, 1)
	checkNoDecay(t, list, 1, 1)
	for _, number := range slices.Concat(noParcelVolumes, noGrades) {
		checkNoPush(t, list, parcel(number, 1))
		checkNoPush(t, list, parcel(1, number))
		checkNoGrade(t, list, number)
		checkNoFlush(t, list, number)
	}
	for _, pair := range noFractions {
		checkNoDecay(t, list, pair[0], pair[1])
	}
}

func TestInvalidPipefulsYieldZeroValues(t *testing.T) {
	for _, list := range invalidPipefuls() {
		checkNoPipeful(t, list)
	}
}

func TestOtherParcelsFractionsAndLimitsYieldZeroValues(t *testing.T) {
	for _, list := range append(knownPipefuls(), smallPipefuls()...) {
		for _, volume := range noParcelVolumes {
			for _, grade := range []int{0, list[0].Grade, 10000} {
				checkNoPush(t, list, parcel(volume, grade))
			}
			checkNoPush(t, list, parcel(volume, -1))
		}
		for _, grade := range noGrades {
			for _, volume := range []int{1, list[len(list)-1].Volume, 1000} {
				checkNoPush(t, list, parcel(volume, grade))
			}
			checkNoPush(t, list, parcel(0, grade))
			checkNoFlush(t, list, grade)
		}
		for _, pair := range noFractions {
			checkNoDecay(t, list, pair[0], pair[1])
		}
	}
}

// parcelsBehind returns a list whose memory goes on behind its Parcels, and that whole memory.
func parcelsBehind(list []impl.Parcel) ([]impl.Parcel, []impl.Parcel) {
	memory := append(slices.Clone(list), parcel(1, 3), parcel(1001, 4), parcel(-5, -2))
	return memory[:len(list)], memory
}

// spoilParcels overwrites all memory of a list of Parcels.
func spoilParcels(list []impl.Parcel) {
	all := list[:cap(list)]
	for i := range all {
		all[i] = parcel(-7, -7)
	}
}

// pushedParcels are Parcels that are pushed into any list, some of them not valid.
var pushedParcels = []impl.Parcel{{Volume: 1, Grade: 0}, {Volume: 1, Grade: 5}, {Volume: 3, Grade: 77}, {Volume: 7, Grade: 5}, {Volume: 20, Grade: 1}, {Volume: 25, Grade: 1}, {Volume: 1000, Grade: 10000}, {Volume: 0, Grade: 5}, {Volume: 1001, Grade: 10001}}

// listsOf returns all lists that the functions return for a list of Parcels.
func listsOf(list []impl.Parcel) [][]impl.Parcel {
	all := [][]impl.Parcel{}
	for _, p := range pushedParcels {
		stay, left, _ := impl.PushParcel(list, p)
		all = append(all, stay, left)
	}
	for _, pair := range [][2]int{{0, 1}, {1, 1}, {1, 2}, {99, 100}, {2, 1}} {
		decayed, _ := impl.DecayParcels(list, pair[0], pair[1])
		all = append(all, decayed)
	}
	reversed, _ := impl.ReversePipe(list)
	return append(all, reversed)
}

// numbersOf returns all numbers that the functions return for a list of Parcels.
func numbersOf(list []impl.Parcel) []int {
	volume, mass, ok := impl.PipeVolume(list)
	num, den, _ := impl.MeanGrade(list)
	grade, at, _ := impl.LeastGrade(list)
	numbers := []int{volume, mass, num, den, grade, at}
	if ok != impl.IsPipeful(list) {
		numbers[0] = -1
	}
	for _, number := range []int{-1, 0, 1, 5, 9, 10, 20, 999, 1000, 10000} {
		grade, isUnit := impl.GradeAt(list, number)
		volume, isLimit := impl.FlushVolume(list, number)
		if !isUnit {
			grade = -1
		}
		if !isLimit {
			volume = -1
		}
		numbers = append(numbers, grade, volume)
	}
	return numbers
}

// checkedPipefuls returns some of all lists, pipefuls or not.
func checkedPipefuls() [][]impl.Parcel {
	list := append(invalidPipefuls(), knownPipefuls()...)
	for i, one := range somePipefuls() {
		if i%5 == 0 {
			list = append(list, one)
		}
	}
	return list
}

func TestParcelFunctionsLeaveTheirArgumentsAlone(t *testing.T) {
	for _, one := range checkedPipefuls() {
		list, whole := parcelsBehind(one)
		before := slices.Clone(whole)
		for range 2 {
			numbersOf(list)
			for _, result := range listsOf(list) {
				spoilParcels(result)
			}
			if !slices.Equal(whole, before) {
				t.Fatalf("an argument is modified: %v to %v", before, whole)
			}
		}
	}
}

func TestNothingBehindTheParcelsIsRead(t *testing.T) {
	for _, full := range checkedPipefuls() {
		if len(full) > 9 {
			full = full[:9]
		}
		for length := range len(full) + 1 {
			short := full[:length]
			alone := slices.Clip(slices.Clone(short))
			longer, _ := parcelsBehind(alone)
			for _, list := range [][]impl.Parcel{short, longer} {
				if !slices.Equal(numbersOf(list), numbersOf(alone)) || !slices.EqualFunc(listsOf(list), listsOf(alone), slices.Equal) {
					t.Fatalf("%v is read behind its end", alone)
				}
			}
			if wantedPipeful(short) != impl.IsPipeful(short) || length == 0 && impl.IsPipeful(short) {
				t.Fatalf("IsPipeful(%v) = %v", short, impl.IsPipeful(short))
			}
		}
	}
}

func TestParcelResultsShareNoMemory(t *testing.T) {
	for _, list := range checkedPipefuls() {
		wanted, first, second := [][]impl.Parcel{}, listsOf(list), listsOf(list)
		for _, one := range first {
			wanted = append(wanted, slices.Clone(one))
		}
		for i := range first {
			spoilParcels(first[i])
			// The others are what they were, those of the same call too.
			for j := i + 1; j < len(first); j++ {
				if !slices.Equal(first[j], wanted[j]) {
					t.Fatal("shares memory:", wanted[j], first[j])
				}
			}
		}
		if !slices.EqualFunc(second, wanted, slices.Equal) || !slices.EqualFunc(listsOf(list), wanted, slices.Equal) {
			t.Fatal("shares memory:", wanted, second)
		}
		// The other way round: what leaves is spoiled before what stays is looked at.
		for i := len(second) - 1; i >= 0; i-- {
			spoilParcels(second[i])
			for j := range i {
				if !slices.Equal(second[j], wanted[j]) {
					t.Fatal("shares memory:", wanted[j], second[j])
				}
			}
		}
	}
}
