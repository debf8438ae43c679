package tests

import (
	"math"
	"math/big"
	"math/rand"
	"slices"
	"testing"

	"loop.example/g00853/impl"
)

// noVolumes are numbers that are no volumes.
var noVolumes = []int{-1, 100001, -2, 100002, -100000, 200000, 1 << 32, -1 << 32, 1<<32 + 5, math.MinInt, math.MaxInt}

// noCents are numbers that are no amounts of cents.
var noCents = []int{-1, 1000000001, -2, 1000000002, -1000000000, 1 << 32, -1 << 32, 1<<32 + 5, math.MinInt, math.MaxInt}

// noPercentages are numbers that are no percentages to raise by.
var noPercentages = []int{-101, 101, -102, 102, -1000, 200, 1 << 32, -1 << 32, 1<<32 + 5, math.MinInt, math.MaxInt}

// tariff returns a Tariff, each of its blocks given by an UpTo and a Price.
func tariff(fee int, blocks ...[2]int) impl.Tariff {
	t := impl.Tariff{Fee: fee}
	for _, b := range blocks {
		t.Blocks = append(t.Blocks, impl.Block{UpTo: b[0], Price: b[1]})
	}
	return t
}

// flat returns a Tariff with one block.
func flat(fee int, price int) impl.Tariff { return tariff(fee, [2]int{100000, price}) }

// threeBlocks is a Tariff of three blocks, the middle one the dearest.
func threeBlocks() impl.Tariff {
	return tariff(500, [2]int{10, 5}, [2]int{60, 20}, [2]int{100000, 2})
}

// firstMeters is a Tariff with four blocks of one cubic meter at the beginning.
func firstMeters() impl.Tariff {
	return tariff(0, [2]int{1, 1}, [2]int{2, 10}, [2]int{3, 100}, [2]int{4, 1000}, [2]int{100000, 0})
}

// bothEnds is a Tariff with two blocks of one cubic meter at each end.
func bothEnds() impl.Tariff {
	return tariff(1, [2]int{1, 1000}, [2]int{2, 0}, [2]int{99998, 1}, [2]int{99999, 0}, [2]int{100000, 1000})
}

// middleMeter is a Tariff with a block of one cubic meter in the middle.
func middleMeter() impl.Tariff {
	return tariff(2, [2]int{500, 3}, [2]int{501, 1000}, [2]int{100000, 1})
}

// firstMeterOnly is a Tariff whose first cubic meter alone has a price.
func firstMeterOnly() impl.Tariff { return tariff(3, [2]int{1, 7}, [2]int{100000, 0}) }

// lastMeterOnly is a Tariff whose last cubic meter alone has a price.
func lastMeterOnly() impl.Tariff { return tariff(0, [2]int{99999, 0}, [2]int{100000, 9}) }

// knownTariffs returns tariffs of many kinds.
func knownTariffs() []impl.Tariff {
	return []impl.Tariff{
		threeBlocks(), firstMeters(), bothEnds(), middleMeter(), firstMeterOnly(), lastMeterOnly(),
		flat(0, 0), flat(0, 1), flat(1, 0), flat(100000, 0), flat(0, 1000), flat(100000, 1000), flat(99999, 999), flat(12, 2),
		tariff(7, [2]int{1, 4}, [2]int{2, 4}, [2]int{3, 4}, [2]int{4, 4}, [2]int{100000, 4}),
		tariff(7, [2]int{10, 4}, [2]int{20, 4}, [2]int{100000, 5}),
		tariff(7, [2]int{10, 3}, [2]int{20, 4}, [2]int{100000, 4}),
		tariff(7, [2]int{10, 4}, [2]int{20, 5}, [2]int{100000, 4}),
		tariff(0, [2]int{99996, 0}, [2]int{99997, 1}, [2]int{99998, 0}, [2]int{99999, 1}, [2]int{100000, 0}),
		tariff(100000, [2]int{20000, 1000}, [2]int{40000, 999}, [2]int{60000, 998}, [2]int{80000, 997}, [2]int{100000, 996}),
		tariff(0, [2]int{20000, 0}, [2]int{40000, 1}, [2]int{60000, 2}, [2]int{80000, 3}, [2]int{100000, 4}),
		tariff(0, [2]int{1, 0}, [2]int{100000, 1000}),
		tariff(5, [2]int{99999, 1000}, [2]int{100000, 0}),
	}
}

// invalidTariffs returns tariffs that are not valid, most of them in one respect only.
func invalidTariffs() []impl.Tariff {
	list := []impl.Tariff{{}, {Fee: 1}, {Blocks: []impl.Block{}}, {Fee: 100000, Blocks: []impl.Block{}}, {Fee: -1}, {Blocks: []impl.Block{{}}},
		// One block more than MaxBlocks, or several.
		tariff(1, [2]int{1, 1}, [2]int{2, 2}, [2]int{3, 3}, [2]int{4, 4}, [2]int{5, 5}, [2]int{100000, 6}),
		tariff(1, [2]int{1, 1}, [2]int{2, 1}, [2]int{3, 1}, [2]int{4, 1}, [2]int{5, 1}, [2]int{6, 1}, [2]int{100000, 1}),
		// The last UpTo is not MaxCubic.
		tariff(1, [2]int{99999, 1}), tariff(1, [2]int{100001, 1}), tariff(1, [2]int{1, 1}), tariff(1, [2]int{10, 1}, [2]int{20, 1}), tariff(1, [2]int{10, 1}, [2]int{99999, 1}), tariff(1, [2]int{10, 1}, [2]int{100001, 1}),
		tariff(1, [2]int{1, 1}, [2]int{2, 2}, [2]int{3, 3}, [2]int{4, 4}, [2]int{5, 5}),
		// MaxCubic is reached before the last block.
		tariff(1, [2]int{100000, 1}, [2]int{100001, 1}), tariff(1, [2]int{10, 1}, [2]int{100000, 1}, [2]int{100001, 1}), tariff(1, [2]int{100000, 1}, [2]int{10, 1}),
		tariff(1, [2]int{100001, 1}, [2]int{100000, 1}), tariff(1, [2]int{100000, 1}, [2]int{99999, 1}), tariff(1, [2]int{math.MaxInt, 1}, [2]int{100000, 1}),
		// UpTos that are equal or descend.
		tariff(1, [2]int{10, 1}, [2]int{10, 1}, [2]int{100000, 1}), tariff(1, [2]int{10, 1}, [2]int{10, 2}, [2]int{100000, 1}), tariff(1, [2]int{10, 1}, [2]int{9, 2}, [2]int{100000, 1}), tariff(1, [2]int{20, 1}, [2]int{10, 2}, [2]int{100000, 1}),
		tariff(1, [2]int{100000, 1}, [2]int{100000, 1}), tariff(1, [2]int{10, 1}, [2]int{100000, 1}, [2]int{100000, 1}), tariff(1, [2]int{1, 1}, [2]int{1, 1}, [2]int{100000, 1}),
		tariff(1, [2]int{10, 1}, [2]int{20, 1}, [2]int{30, 1}, [2]int{25, 1}, [2]int{100000, 1}), tariff(1, [2]int{10, 1}, [2]int{20, 1}, [2]int{15, 1}, [2]int{30, 1}, [2]int{100000, 1}),
		tariff(1, [2]int{10, 1}, [2]int{20, 1}, [2]int{30, 1}, [2]int{30, 1}, [2]int{100000, 1}),
		// An UpTo of 0 or less.
		tariff(1, [2]int{0, 1}), tariff(1, [2]int{0, 1}, [2]int{100000, 1}), tariff(1, [2]int{-1, 1}, [2]int{100000, 1}), tariff(1, [2]int{math.MinInt, 1}, [2]int{100000, 1}),
		tariff(1, [2]int{-1, 1}, [2]int{0, 1}, [2]int{100000, 1}), tariff(1, [2]int{5, 1}, [2]int{0, 1}, [2]int{100000, 1}), tariff(1, [2]int{0, 1}, [2]int{1, 1}, [2]int{2, 1}, [2]int{3, 1}, [2]int{100000, 1}),
		tariff(1, [2]int{-100000, 1}), tariff(0, [2]int{0, 0}), tariff(0, [2]int{0, 0}, [2]int{0, 0}),
	}
	for _, fee := range []int{-1, 100001, -2, 100002, -100000, 200000, 1 << 32, -1 << 32, 1<<32 + 5, math.MinInt, math.MaxInt} {
		list = append(list, flat(fee, 1), flat(fee, 0), tariff(fee, [2]int{10, 5}, [2]int{60, 20}, [2]int{100000, 2}))
	}
	for _, price := range []int{-1, 1001, -2, 1002, -1000, 2000, 1 << 32, -1 << 32, 1<<32 + 5, math.MinInt, math.MaxInt} {
		list = append(list, flat(1, price), flat(0, price))
		for place := range 5 {
			t := tariff(1, [2]int{1, 1}, [2]int{2, 2}, [2]int{3, 3}, [2]int{4, 4}, [2]int{100000, 5})
			t.Blocks[place].Price = price
			list = append(list, t)
		}
	}
	return list
}

// smallTariffs returns all tariffs whose blocks end at some of the first and the last cubic meters,
// with Prices of up to 2, and with a Fee that changes from one to the next.
func smallTariffs() []impl.Tariff {
	list := []impl.Tariff{}
	for ends := range 1 << 5 {
		t := impl.Tariff{}
		for i, end := range []int{1, 2, 3, 99998, 99999} {
			if ends>>i&1 == 1 {
				t.Blocks = append(t.Blocks, impl.Block{UpTo: end})
			}
		}
		t.Blocks = append(t.Blocks, impl.Block{UpTo: 100000})
		if len(t.Blocks) > 5 {
			continue
		}
		volumeLists(len(t.Blocks), 2, func(prices []int) {
			this := impl.Tariff{Fee: len(list) % 3, Blocks: slices.Clone(t.Blocks)}
			for i, price := range prices {
				this.Blocks[i].Price = price
			}
			list = append(list, this)
		})
	}
	return list
}

// drawnEnds returns the UpTos of a number of blocks; many blocks have one cubic meter.
func drawnEnds(r *rand.Rand, number int) []int {
	ends := []int{100000}
	for len(ends) < number {
		end := 1 + r.Intn(99999)
		switch r.Intn(4) {
		case 0:
			end = 1 + r.Intn(20)
		case 1:
			end = max(1, ends[r.Intn(len(ends))]-1)
		}
		if !slices.Contains(ends, end) {
			ends = append(ends, end)
		}
	}
	slices.Sort(ends)
	return ends
}

// drawnTariff returns a valid Tariff. In some, many Prices are equal, or all are small or great.
func drawnTariff(r *rand.Rand) impl.Tariff {
	t := impl.Tariff{Fee: []int{0, 1, 100000, r.Intn(1000), r.Intn(100001)}[r.Intn(5)]}
	least, span := 0, []int{1, 2, 5, 1001}[r.Intn(4)]
	if r.Intn(4) == 0 {
		least = 1001 - span
	}
	for _, end := range drawnEnds(r, 1+r.Intn(5)) {
		t.Blocks = append(t.Blocks, impl.Block{UpTo: end, Price: least + r.Intn(span)})
	}
	return t
}

// someTariffs returns tariffs of many kinds: known ones, small ones and drawn ones.
func someTariffs() []impl.Tariff {
	list, r := append(knownTariffs(), smallTariffs()...), rand.New(rand.NewSource(14))
	for range 1500 {
		list = append(list, drawnTariff(r))
	}
	return list
}

// wantedPrice returns the price of a cubic meter, counted from 1.
func wantedPrice(t impl.Tariff, meter int) int {
	for _, b := range t.Blocks {
		if b.UpTo >= meter {
			return b.Price
		}
	}
	panic("beyond the last block")
}

// wantedCosts returns the costs of all volumes, added up cubic meter by cubic meter.
func wantedCosts(t impl.Tariff) []int {
	costs := make([]int, 100001)
	fillCosts(costs, t)
	return costs
}

// fillCosts puts the costs of all volumes into a list. Tests with many tariffs fill the same one
// again and again.
func fillCosts(costs []int, t impl.Tariff) {
	costs[0] = t.Fee
	block := 0
	for meter := 1; meter <= 100000; meter++ {
		for t.Blocks[block].UpTo < meter {
			block++
		}
		costs[meter] = costs[meter-1] + t.Blocks[block].Price
	}
}

// wantedParts returns the Fee and what the cubic meters of each block cost in a volume.
func wantedParts(t impl.Tariff, volume int) []int {
	parts, meter := []int{t.Fee}, 1
	for _, b := range t.Blocks {
		part := 0
		for ; meter <= volume && meter <= b.UpTo; meter++ {
			part += b.Price
		}
		parts = append(parts, part)
	}
	return parts
}

// volumesOf returns volumes at the ends of the blocks and beside them, a few others and some drawn
// ones.
func volumesOf(t impl.Tariff, r *rand.Rand) []int {
	list := []int{0, 1, 2, 3, 4, 5, 10, 50000, 99996, 99997, 99998, 99999, 100000, r.Intn(100001), r.Intn(100001), r.Intn(1000)}
	for _, b := range t.Blocks {
		list = append(list, b.UpTo-1, b.UpTo, min(b.UpTo+1, 100000))
	}
	return list
}

// sameTariff reports whether two tariffs have the same Fee and Blocks.
func sameTariff(a impl.Tariff, b impl.Tariff) bool {
	return a.Fee == b.Fee && slices.Equal(a.Blocks, b.Blocks)
}

// isNoTariff reports whether t is the zero value.
func isNoTariff(t impl.Tariff) bool { return t.Fee == 0 && len(t.Blocks) == 0 }

func TestTheLimitsOfTariffs(t *testing.T) {
	if impl.MaxBlocks != 5 || impl.MaxCubic != 100000 || impl.MaxBlockPrice != 1000 {
		t.Error(impl.MaxBlocks, impl.MaxCubic, impl.MaxBlockPrice)
	}
}

func TestValidTariffs(t *testing.T) {
	for _, x := range someTariffs() {
		if !impl.IsValidTariff(x) {
			t.Fatalf("IsValidTariff(%v) = false", x)
		}
	}
	for _, x := range invalidTariffs() {
		if impl.IsValidTariff(x) {
			t.Errorf("IsValidTariff(%v) = true", x)
		}
	}
}

func TestValidTariffsAtEachLimit(t *testing.T) {
	for _, fee := range []int{-2, -1, 0, 1, 99999, 100000, 100001, 100002} {
		if got := impl.IsValidTariff(flat(fee, 1)); got != (0 <= fee && fee <= 100000) {
			t.Errorf("Fee %d: %v", fee, got)
		}
	}
	for _, price := range []int{-2, -1, 0, 1, 999, 1000, 1001, 1002} {
		for place := range 3 {
			x := threeBlocks()
			x.Blocks[place].Price = price
			if got := impl.IsValidTariff(x); got != (0 <= price && price <= 1000) {
				t.Errorf("Price %d in block %d: %v", price, place, got)
			}
		}
	}
	for _, end := range []int{-1, 0, 1, 2, 99998, 99999, 100000, 100001} {
		if got := impl.IsValidTariff(tariff(1, [2]int{end, 1}, [2]int{100000, 2})); got != (1 <= end && end <= 99999) {
			t.Errorf("first UpTo %d: %v", end, got)
		}
		if got := impl.IsValidTariff(tariff(1, [2]int{1, 1}, [2]int{end, 1}, [2]int{100000, 2})); got != (2 <= end && end <= 99999) {
			t.Errorf("middle UpTo %d: %v", end, got)
		}
		if got := impl.IsValidTariff(tariff(1, [2]int{1, 1}, [2]int{end, 2})); got != (end == 100000) {
			t.Errorf("last UpTo %d: %v", end, got)
		}
		if got := impl.IsValidTariff(tariff(1, [2]int{end, 2})); got != (end == 100000) {
			t.Errorf("only UpTo %d: %v", end, got)
		}
	}
	for number := range 8 {
		x := tariff(1, [2]int{100000, 1})
		for before := range number - 1 {
			x.Blocks = slices.Insert(x.Blocks, before, impl.Block{UpTo: before + 1, Price: 2})
		}
		x.Blocks = x.Blocks[:min(number, len(x.Blocks))]
		if got := impl.IsValidTariff(x); got != (1 <= number && number <= 5) {
			t.Errorf("%d blocks, %v: %v", number, x, got)
		}
	}
}

func TestSomeTariffsAreOfManyKinds(t *testing.T) {
	single, five, first, last, middle, joined, free, progressive := 0, 0, 0, 0, 0, 0, 0, 0
	all := someTariffs()
	for _, x := range all {
		number := len(x.Blocks)
		if number == 1 {
			single++
		}
		if number == 5 {
			five++
		}
		if x.Blocks[0].UpTo == 1 {
			first++
		}
		if number > 1 && x.Blocks[number-2].UpTo == 99999 {
			last++
		}
		falls := false
		for i := 1; i < number; i++ {
			if i+1 < number && x.Blocks[i].UpTo == x.Blocks[i-1].UpTo+1 {
				middle++
			}
			if x.Blocks[i].Price == x.Blocks[i-1].Price {
				joined++
			}
			falls = falls || x.Blocks[i].Price < x.Blocks[i-1].Price
		}
		if number > 1 && !falls {
			progressive++
		}
		if slices.ContainsFunc(x.Blocks, func(b impl.Block) bool { return b.Price == 0 }) {
			free++
		}
	}
	if single < 100 || min(five, first, last, middle, joined, free, progressive) < 500 || len(all) != 23+2343+1500 {
		t.Error("too few of some kind:", single, five, first, last, middle, joined, free, progressive, len(all))
	}
}

func TestKnownCosts(t *testing.T) {
	for _, k := range []struct {
		t     impl.Tariff
		costs map[int]int
	}{
		{threeBlocks(), map[int]int{0: 500, 1: 505, 9: 545, 10: 550, 11: 570, 12: 590, 59: 1530, 60: 1550, 61: 1552, 99999: 201428, 100000: 201430}},
		{firstMeters(), map[int]int{0: 0, 1: 1, 2: 11, 3: 111, 4: 1111, 5: 1111, 99999: 1111, 100000: 1111}},
		{bothEnds(), map[int]int{0: 1, 1: 1001, 2: 1001, 3: 1002, 99997: 100996, 99998: 100997, 99999: 100997, 100000: 101997}},
		{middleMeter(), map[int]int{0: 2, 1: 5, 499: 1499, 500: 1502, 501: 2502, 502: 2503, 100000: 102001}},
		{firstMeterOnly(), map[int]int{0: 3, 1: 10, 2: 10, 100000: 10}},
		{lastMeterOnly(), map[int]int{0: 0, 1: 0, 99998: 0, 99999: 0, 100000: 9}},
		{flat(0, 0), map[int]int{0: 0, 1: 0, 99999: 0, 100000: 0}},
		{flat(100000, 0), map[int]int{0: 100000, 1: 100000, 100000: 100000}},
		{flat(0, 1000), map[int]int{0: 0, 1: 1000, 99999: 99999000, 100000: 100000000}},
		{flat(100000, 1000), map[int]int{0: 100000, 1: 101000, 99999: 100099000, 100000: 100100000}},
		{tariff(5, [2]int{99999, 1000}, [2]int{100000, 0}), map[int]int{0: 5, 99998: 99998005, 99999: 99999005, 100000: 99999005}},
	} {
		for volume, want := range k.costs {
			if got, ok := impl.CostOf(k.t, volume); !ok || got != want {
				t.Errorf("CostOf(%v, %d) = %d, %v, want %d", k.t, volume, got, ok, want)
			}
		}
	}
}

func TestKnownNextPrices(t *testing.T) {
	for _, k := range []struct {
		t      impl.Tariff
		prices map[int]int
	}{
		{threeBlocks(), map[int]int{0: 5, 1: 5, 8: 5, 9: 5, 10: 20, 11: 20, 58: 20, 59: 20, 60: 2, 61: 2, 99998: 2, 99999: 2}},
		{firstMeters(), map[int]int{0: 1, 1: 10, 2: 100, 3: 1000, 4: 0, 5: 0, 99999: 0}},
		{bothEnds(), map[int]int{0: 1000, 1: 0, 2: 1, 3: 1, 99997: 1, 99998: 0, 99999: 1000}},
		{middleMeter(), map[int]int{0: 3, 499: 3, 500: 1000, 501: 1, 99999: 1}},
		{firstMeterOnly(), map[int]int{0: 7, 1: 0, 99999: 0}},
		{lastMeterOnly(), map[int]int{0: 0, 99998: 0, 99999: 9}},
		{flat(0, 0), map[int]int{0: 0, 99999: 0}},
		{flat(100000, 1000), map[int]int{0: 1000, 99999: 1000}},
	} {
		for volume, want := range k.prices {
			if got, ok := impl.NextPrice(k.t, volume); !ok || got != want {
				t.Errorf("NextPrice(%v, %d) = %d, %v, want %d", k.t, volume, got, ok, want)
			}
		}
		if got, ok := impl.NextPrice(k.t, 100000); ok || got != 0 {
			t.Errorf("NextPrice(%v, 100000) = %d, %v", k.t, got, ok)
		}
	}
}

func TestKnownParts(t *testing.T) {
	for _, k := range []struct {
		t      impl.Tariff
		volume int
		want   []int
	}{
		{threeBlocks(), 0, []int{500, 0, 0, 0}}, {threeBlocks(), 1, []int{500, 5, 0, 0}}, {threeBlocks(), 9, []int{500, 45, 0, 0}}, {threeBlocks(), 10, []int{500, 50, 0, 0}}, {threeBlocks(), 11, []int{500, 50, 20, 0}}, {threeBlocks(), 12, []int{500, 50, 40, 0}},
		{threeBlocks(), 59, []int{500, 50, 980, 0}}, {threeBlocks(), 60, []int{500, 50, 1000, 0}}, {threeBlocks(), 61, []int{500, 50, 1000, 2}}, {threeBlocks(), 100000, []int{500, 50, 1000, 199880}},
		{firstMeters(), 0, []int{0, 0, 0, 0, 0, 0}}, {firstMeters(), 2, []int{0, 1, 10, 0, 0, 0}}, {firstMeters(), 4, []int{0, 1, 10, 100, 1000, 0}}, {firstMeters(), 100000, []int{0, 1, 10, 100, 1000, 0}},
		{bothEnds(), 1, []int{1, 1000, 0, 0, 0, 0}}, {bothEnds(), 99999, []int{1, 1000, 0, 99996, 0, 0}}, {bothEnds(), 100000, []int{1, 1000, 0, 99996, 0, 1000}},
		{middleMeter(), 500, []int{2, 1500, 0, 0}}, {middleMeter(), 501, []int{2, 1500, 1000, 0}}, {middleMeter(), 502, []int{2, 1500, 1000, 1}},
		{lastMeterOnly(), 99999, []int{0, 0, 0}}, {lastMeterOnly(), 100000, []int{0, 0, 9}},
		{flat(0, 0), 0, []int{0, 0}}, {flat(0, 0), 100000, []int{0, 0}}, {flat(100000, 1000), 0, []int{100000, 0}}, {flat(100000, 1000), 100000, []int{100000, 100000000}},
		// Neighboring blocks with equal Prices keep parts of their own.
		{tariff(7, [2]int{10, 4}, [2]int{20, 4}, [2]int{100000, 4}), 15, []int{7, 40, 20, 0}},
	} {
		if got, ok := impl.SplitCost(k.t, k.volume); !ok || !slices.Equal(got, k.want) {
			t.Errorf("SplitCost(%v, %d) = %v, %v, want %v", k.t, k.volume, got, ok, k.want)
		}
	}
}

// checkCosts checks the functions of one volume against the costs of all volumes.
func checkCosts(t *testing.T, x impl.Tariff, costs []int, volume int) {
	t.Helper()
	if got, ok := impl.CostOf(x, volume); !ok || got != costs[volume] {
		t.Fatalf("CostOf(%v, %d) = %d, %v, want %d", x, volume, got, ok, costs[volume])
	}
	parts, ok := impl.SplitCost(x, volume)
	if !ok || len(parts) != 1+len(x.Blocks) || parts[0] != x.Fee || total(parts) != costs[volume] {
		t.Fatalf("SplitCost(%v, %d) = %v, %v, want a sum of %d", x, volume, parts, ok, costs[volume])
	}
	price, ok := impl.NextPrice(x, volume)
	if volume == 100000 {
		if ok || price != 0 {
			t.Fatalf("NextPrice(%v, %d) = %d, %v", x, volume, price, ok)
		}
	} else if !ok || price != costs[volume+1]-costs[volume] || price != wantedPrice(x, volume+1) {
		t.Fatalf("NextPrice(%v, %d) = %d, %v, want %d", x, volume, price, ok, costs[volume+1]-costs[volume])
	}
	num, den, ok := impl.MeanPrice(x, volume)
	if volume == 0 {
		if ok || num != 0 || den != 0 {
			t.Fatalf("MeanPrice(%v, 0) = %d, %d, %v", x, num, den, ok)
		}
	} else if !ok || !isFraction(num, den, big.NewRat(int64(costs[volume]), int64(volume))) {
		t.Fatalf("MeanPrice(%v, %d) = %d, %d, %v, want %d / %d", x, volume, num, den, ok, costs[volume], volume)
	}
}

func TestCostsAddUpMeterByMeter(t *testing.T) {
	r, costs := rand.New(rand.NewSource(15)), make([]int, 100001)
	for i, x := range someTariffs() {
		fillCosts(costs, x)
		for _, volume := range volumesOf(x, r) {
			checkCosts(t, x, costs, volume)
			if i%10 == 0 {
				want := wantedParts(x, volume)
				if got, ok := impl.SplitCost(x, volume); !ok || !slices.Equal(got, want) {
					t.Fatalf("SplitCost(%v, %d) = %v, %v, want %v", x, volume, got, ok, want)
				}
			}
		}
	}
}

func TestCostsOfAllVolumes(t *testing.T) {
	r := rand.New(rand.NewSource(16))
	list := []impl.Tariff{threeBlocks(), bothEnds(), middleMeter(), flat(100000, 1000)}
	for range 4 {
		list = append(list, drawnTariff(r))
	}
	for _, x := range list {
		costs := wantedCosts(x)
		for volume := range 100001 {
			checkCosts(t, x, costs, volume)
		}
	}
}

func TestPartsGrowOneAfterTheOther(t *testing.T) {
	for _, x := range knownTariffs() {
		before, _ := impl.SplitCost(x, 0)
		for volume := 1; volume <= 100000; volume++ {
			place := slices.IndexFunc(x.Blocks, func(b impl.Block) bool { return b.UpTo >= volume })
			before[1+place] += x.Blocks[place].Price
			if got, ok := impl.SplitCost(x, volume); !ok || !slices.Equal(got, before) {
				t.Fatalf("SplitCost(%v, %d) = %v, %v, want %v", x, volume, got, ok, before)
			}
		}
	}
}

func TestKnownVolumesForCents(t *testing.T) {
	for _, k := range []struct {
		t       impl.Tariff
		volumes map[int]int
	}{
		// -1 stands for none.
		{threeBlocks(), map[int]int{-1: -1, 0: -1, 1: -1, 499: -1, 500: 0, 501: 0, 504: 0, 505: 1, 506: 1, 549: 9, 550: 10, 551: 10, 569: 10, 570: 11, 571: 11, 595: 12, 1549: 59, 1550: 60, 1551: 60, 1552: 61, 201427: 99998, 201428: 99999, 201429: 99999, 201430: 100000, 201431: 100000, 999999999: 100000, 1000000000: 100000, 1000000001: -1}},
		{firstMeters(), map[int]int{-1: -1, 0: 0, 1: 1, 2: 1, 10: 1, 11: 2, 110: 2, 111: 3, 112: 3, 1110: 3, 1111: 100000, 1112: 100000, 1000000000: 100000, 1000000001: -1}},
		{bothEnds(), map[int]int{-1: -1, 0: -1, 1: 0, 2: 0, 1000: 0, 1001: 2, 1002: 3, 100996: 99997, 100997: 99999, 100998: 99999, 101996: 99999, 101997: 100000, 101998: 100000}},
		{middleMeter(), map[int]int{1: -1, 2: 0, 4: 0, 5: 1, 1501: 499, 1502: 500, 2501: 500, 2502: 501, 2503: 502, 102000: 99999, 102001: 100000}},
		{firstMeterOnly(), map[int]int{0: -1, 2: -1, 3: 0, 9: 0, 10: 100000, 11: 100000, 1000000000: 100000}},
		{lastMeterOnly(), map[int]int{-1: -1, 0: 99999, 1: 99999, 8: 99999, 9: 100000, 10: 100000, 1000000000: 100000}},
		{flat(0, 0), map[int]int{-1: -1, 0: 100000, 1: 100000, 1000000000: 100000, 1000000001: -1}},
		{flat(1, 0), map[int]int{-1: -1, 0: -1, 1: 100000, 2: 100000}},
		{flat(100000, 0), map[int]int{0: -1, 99999: -1, 100000: 100000, 100001: 100000}},
		{flat(0, 1), map[int]int{-1: -1, 0: 0, 1: 1, 99999: 99999, 100000: 100000, 100001: 100000}},
		{flat(100000, 1000), map[int]int{0: -1, 99999: -1, 100000: 0, 100999: 0, 101000: 1, 100098999: 99998, 100099000: 99999, 100099999: 99999, 100100000: 100000, 100100001: 100000, 1000000000: 100000, 1000000001: -1}},
	} {
		for cents, want := range k.volumes {
			got, ok := impl.VolumeFor(k.t, cents)
			if ok != (want >= 0) || got != max(want, 0) {
				t.Errorf("VolumeFor(%v, %d) = %d, %v, want %d", k.t, cents, got, ok, want)
			}
		}
	}
}

// checkVolume checks the volume for an amount of cents against the costs of all volumes, and
// returns whether there is one.
func checkVolume(t *testing.T, x impl.Tariff, costs []int, cents int) bool {
	t.Helper()
	got, ok := impl.VolumeFor(x, cents)
	if cents < costs[0] || cents > 1000000000 {
		if ok || got != 0 {
			t.Fatalf("VolumeFor(%v, %d) = %d, %v", x, cents, got, ok)
		}
		return false
	}
	// No volume behind the next one costs less than that, so it is enough to look at both.
	if !ok || got < 0 || got > 100000 || costs[got] > cents || got < 100000 && costs[got+1] <= cents {
		t.Fatalf("VolumeFor(%v, %d) = %d, %v", x, cents, got, ok)
	}
	if cost, _ := impl.CostOf(x, got); cost > cents {
		t.Fatalf("VolumeFor(%v, %d) = %d, which costs %d", x, cents, got, cost)
	}
	return true
}

func TestVolumesCostAtMostTheCents(t *testing.T) {
	r, costs := rand.New(rand.NewSource(17)), make([]int, 100001)
	found, none, same := 0, 0, 0
	for _, x := range someTariffs() {
		fillCosts(costs, x)
		list := []int{-1, 0, 1, 2, x.Fee - 1, x.Fee, x.Fee + 1, 999999999, 1000000000, 1000000001, r.Intn(1000000001), x.Fee + r.Intn(1000), r.Intn(costs[100000] + 1)}
		for _, volume := range volumesOf(x, r) {
			list = append(list, costs[volume]-1, costs[volume], costs[volume]+1)
			if volume < 100000 && costs[volume] == costs[volume+1] {
				same++
			}
		}
		for _, cents := range list {
			if checkVolume(t, x, costs, cents) {
				found++
			} else {
				none++
			}
		}
	}
	if min(found, none, same) < 1000 {
		t.Error("too few of some kind:", found, none, same)
	}
}

func TestVolumesAreTheGreatestOfAll(t *testing.T) {
	r := rand.New(rand.NewSource(18))
	for _, x := range knownTariffs() {
		costs := wantedCosts(x)
		list := []int{x.Fee, x.Fee + 1, costs[100000] - 1, costs[100000], costs[100000] + 1}
		for range 200 {
			list = append(list, costs[r.Intn(100001)]+r.Intn(3)-1)
		}
		for _, cents := range list {
			want := -1
			for volume, cost := range costs {
				if cost <= cents {
					want = volume
				}
			}
			if got, ok := impl.VolumeFor(x, cents); ok != (want >= 0) || got != max(want, 0) {
				t.Fatalf("VolumeFor(%v, %d) = %d, %v, want %d", x, cents, got, ok, want)
			}
		}
	}
}

func TestKnownMeanPrices(t *testing.T) {
	for _, k := range []struct {
		t                impl.Tariff
		volume, num, den int
	}{
		{threeBlocks(), 1, 505, 1}, {threeBlocks(), 7, 535, 7}, {threeBlocks(), 10, 55, 1}, {threeBlocks(), 12, 295, 6}, {threeBlocks(), 60, 155, 6}, {threeBlocks(), 100000, 20143, 10000},
		{flat(0, 0), 1, 0, 1}, {flat(0, 0), 6, 0, 1}, {flat(0, 0), 100000, 0, 1}, {lastMeterOnly(), 99999, 0, 1}, {lastMeterOnly(), 100000, 9, 100000},
		{flat(0, 7), 1, 7, 1}, {flat(0, 7), 99999, 7, 1}, {flat(6, 7), 4, 17, 2}, {flat(6, 7), 6, 8, 1}, {flat(6, 7), 12, 15, 2},
		{flat(100000, 1000), 1, 101000, 1}, {flat(100000, 1000), 3, 103000, 3}, {flat(100000, 1000), 100000, 1001, 1}, {flat(100000, 1000), 99999, 100099000, 99999},
		{firstMeterOnly(), 1, 10, 1}, {firstMeterOnly(), 2, 5, 1}, {firstMeterOnly(), 4, 5, 2}, {firstMeterOnly(), 3, 10, 3}, {firstMeterOnly(), 100000, 1, 10000},
	} {
		if num, den, ok := impl.MeanPrice(k.t, k.volume); !ok || num != k.num || den != k.den {
			t.Errorf("MeanPrice(%v, %d) = %d, %d, %v, want %d, %d", k.t, k.volume, num, den, ok, k.num, k.den)
		}
	}
	for _, x := range knownTariffs() {
		if num, den, ok := impl.MeanPrice(x, 0); ok || num != 0 || den != 0 {
			t.Errorf("MeanPrice(%v, 0) = %d, %d, %v", x, num, den, ok)
		}
	}
}

// withPrices returns a Tariff with these Prices and blocks of ten cubic meters before the last one.
func withPrices(prices ...int) impl.Tariff {
	x := impl.Tariff{Fee: 9}
	for i, price := range prices {
		x.Blocks = append(x.Blocks, impl.Block{UpTo: 10 * (i + 1), Price: price})
	}
	x.Blocks[len(prices)-1].UpTo = 100000
	return x
}

func TestKnownProgressiveTariffs(t *testing.T) {
	for _, k := range []struct {
		prices []int
		want   bool
	}{
		{[]int{0}, true}, {[]int{5}, true}, {[]int{1000}, true}, {[]int{5, 5}, true}, {[]int{0, 0, 0, 0, 0}, true}, {[]int{1000, 1000, 1000, 1000, 1000}, true},
		{[]int{4, 5}, true}, {[]int{5, 4}, false}, {[]int{0, 1000}, true}, {[]int{1000, 0}, false}, {[]int{0, 1, 2, 3, 4}, true}, {[]int{4, 3, 2, 1, 0}, false}, {[]int{0, 0, 1, 1, 1000}, true},
		// One Price falls, at each place.
		{[]int{2, 1, 2, 3, 4}, false}, {[]int{1, 2, 1, 3, 4}, false}, {[]int{1, 2, 3, 2, 4}, false}, {[]int{1, 2, 3, 4, 3}, false},
		// The last one is greater than the first one all the same.
		{[]int{1, 3, 2}, false}, {[]int{5, 20, 2}, false}, {[]int{2, 1, 3}, false}, {[]int{1, 1, 1, 1, 0}, false},
	} {
		if got, ok := impl.IsProgressive(withPrices(k.prices...)); !ok || got != k.want {
			t.Errorf("IsProgressive with Prices %v = %v, %v", k.prices, got, ok)
		}
	}
}

func TestNextPricesOfProgressiveTariffsNeverFall(t *testing.T) {
	rising, falling := 0, 0
	for _, x := range someTariffs() {
		want := true
		for _, b := range x.Blocks {
			if b.UpTo < 100000 {
				here, _ := impl.NextPrice(x, b.UpTo-1)
				next, _ := impl.NextPrice(x, b.UpTo)
				want = want && here <= next
			}
		}
		if got, ok := impl.IsProgressive(x); !ok || got != want {
			t.Fatalf("IsProgressive(%v) = %v, %v", x, got, ok)
		}
		if want {
			rising++
		} else {
			falling++
		}
	}
	if min(rising, falling) < 500 {
		t.Error("too few of some kind:", rising, falling)
	}
}

func TestKnownCheaperTariffs(t *testing.T) {
	for name, k := range map[string]struct {
		a, b       impl.Tariff
		from, back int
	}{
		// -1 stands for none; back is the volume the other way round.
		"a greater Fee, a smaller Price":       {flat(0, 5), flat(12, 2), 5, 0},
		"cheaper at 0":                         {flat(1, 2), flat(0, 2), 0, -1},
		"cheaper at 0, dearer from 1 on":       {flat(1, 0), flat(0, 5), 0, 1},
		"cheaper from 1 on":                    {flat(0, 5), flat(0, 4), 1, -1},
		"cheaper from 1 on, by one":            {flat(0, 1), flat(0, 0), 1, -1},
		"equal":                                {flat(0, 2), flat(0, 2), -1, -1},
		"equal and free":                       {flat(0, 0), flat(0, 0), -1, -1},
		"equal, with other blocks":             {tariff(7, [2]int{10, 5}, [2]int{20, 5}, [2]int{100000, 2}), tariff(7, [2]int{20, 5}, [2]int{30, 2}, [2]int{100000, 2}), -1, -1},
		"never, although equal at 0":           {flat(9, 2), flat(9, 3), -1, 1},
		"never, although equal at MaxCubic":    {flat(0, 1), flat(100000, 0), -1, 0},
		"only at MaxCubic":                     {flat(0, 1), flat(99999, 0), 100000, 0},
		"only at MaxCubic, by its block":       {lastMeterOnly(), flat(8, 0), 100000, 0},
		"equal at MaxCubic, by its block":      {lastMeterOnly(), flat(9, 0), -1, 0},
		"from 99999 on":                        {flat(0, 1), flat(99998, 0), 99999, 0},
		"only at 1":                            {flat(0, 5), tariff(0, [2]int{1, 4}, [2]int{2, 6}, [2]int{100000, 5}), 1, -1},
		"only at 1, dearer behind it":          {flat(0, 5), tariff(0, [2]int{1, 4}, [2]int{2, 7}, [2]int{100000, 5}), 1, 2},
		"only at 8, in blocks of one meter":    {flat(0, 5), tariff(1, [2]int{7, 5}, [2]int{8, 3}, [2]int{9, 8}, [2]int{100000, 5}), 8, 0},
		"from 5 to 15 in one block":            {flat(10, 5), tariff(14, [2]int{10, 4}, [2]int{100000, 6}), 5, 0},
		"from 5 to 15 in one block of b":       {tariff(10, [2]int{10, 6}, [2]int{100000, 4}), flat(14, 5), 5, 0},
		"equal at 10, where it turns":          {flat(4, 5), tariff(14, [2]int{10, 4}, [2]int{100000, 6}), -1, 0},
		"only at 10, where it turns":           {flat(5, 5), tariff(14, [2]int{10, 4}, [2]int{100000, 6}), 10, 0},
		"twice cheaper":                        {flat(0, 5), tariff(3, [2]int{5, 4}, [2]int{10, 9}, [2]int{20, 2}, [2]int{100000, 6}), 4, 0},
		"cheaper where a turns":                {tariff(0, [2]int{5, 10}, [2]int{100000, 1}), tariff(20, [2]int{3, 2}, [2]int{100000, 2}), 3, 0},
		"cheaper behind the end of both":       {tariff(0, [2]int{10, 1}, [2]int{100000, 9}), tariff(5, [2]int{10, 1}, [2]int{100000, 3}), 11, 0},
		"cheaper at the end of both":           {tariff(0, [2]int{10, 2}, [2]int{100000, 1}), tariff(19, [2]int{10, 0}, [2]int{100000, 9}), 10, 0},
		"dearer again at the next meter":       {tariff(0, [2]int{10, 2}, [2]int{11, 1}, [2]int{100000, 0}), tariff(19, [2]int{10, 0}, [2]int{11, 3}, [2]int{100000, 0}), 10, 0},
		"cheaper and dearer by turns":          {tariff(0, [2]int{1, 2}, [2]int{2, 0}, [2]int{3, 9}, [2]int{100000, 0}), tariff(1, [2]int{1, 1}, [2]int{2, 1}, [2]int{3, 0}, [2]int{100000, 0}), 3, 0},
		"the greatest Fee and Price against 0": {flat(100000, 1000), flat(0, 0), 0, -1},
		"the greatest Fee against a Price":     {flat(0, 1000), flat(100000, 999), -1, 0},
		"nearly the greatest Fee":              {flat(0, 1000), flat(99999, 999), 100000, 0},
		"the Price of the first meter only":    {firstMeterOnly(), flat(9, 0), 1, 0},
		"never below the first meter's Price":  {firstMeterOnly(), flat(10, 0), -1, 0},
	} {
		for _, way := range []struct {
			a, b impl.Tariff
			want int
		}{{k.a, k.b, k.from}, {k.b, k.a, k.back}} {
			if got, ok := impl.CheaperFrom(way.a, way.b); ok != (way.want >= 0) || got != max(way.want, 0) {
				t.Errorf("%s: CheaperFrom(%v, %v) = %d, %v, want %d", name, way.a, way.b, got, ok, way.want)
			}
		}
	}
}

// closeTariff returns a tariff that costs nearly the same as others of its kind, so that now the one
// and now the other is cheaper.
func closeTariff(r *rand.Rand) impl.Tariff {
	ends := []int{100000}
	for range r.Intn(5) {
		end := 1 + r.Intn(40)
		if r.Intn(3) == 0 {
			end = 100000 - end
		}
		if !slices.Contains(ends, end) {
			ends = append(ends, end)
		}
	}
	slices.Sort(ends)
	t := impl.Tariff{Fee: r.Intn(12)}
	for _, end := range ends {
		price := r.Intn(5)
		// In long blocks, one price in common keeps the costs close.
		if len(t.Blocks) > 0 && end-t.Blocks[len(t.Blocks)-1].UpTo > 1000 || len(t.Blocks) == 0 && end > 1000 {
			price = 2
		}
		t.Blocks = append(t.Blocks, impl.Block{UpTo: end, Price: price})
	}
	return t
}

// comparedTariffs returns lists of tariffs. Those of one list are compared with each other.
func comparedTariffs() [][]impl.Tariff {
	r := rand.New(rand.NewSource(19))
	list := [][]impl.Tariff{knownTariffs(), {}, {}, {}, {}, {}, {}}
	for i, x := range smallTariffs() {
		if i%37 == 0 {
			list[1] = append(list[1], x)
		}
	}
	for range 60 {
		list[2] = append(list[2], drawnTariff(r))
		list[3] = append(list[3], closeTariff(r))
		list[4] = append(list[4], closeTariff(r))
		// These differ in the Fee and in the price of the last cubic meter only.
		list[5] = append(list[5], tariff(r.Intn(6), [2]int{99999, 1}, [2]int{100000, r.Intn(8)}))
	}
	for i := range 12 {
		list[3] = append(list[3], flat(i, 2))
		list[6] = append(list[6], flat(i, 5))
	}
	for range 50 {
		// These have a smaller price first and a greater one behind.
		list[6] = append(list[6], tariff(r.Intn(30), [2]int{1 + r.Intn(40), 1 + r.Intn(4)}, [2]int{100000, 6 + r.Intn(4)}))
	}
	return list
}

// wantedCheaper returns the first volume at which the second costs are smaller, -1 if there is none.
func wantedCheaper(first []int, second []int) int {
	for volume, cost := range first {
		if second[volume] < cost {
			return volume
		}
	}
	return -1
}

// isDearerAgain reports whether the second costs are greater at a volume in the same block of a
// as one from which on they were smaller.
func isDearerAgain(a impl.Tariff, first []int, second []int, from int) bool {
	for volume := from; volume <= 100000; volume++ {
		if second[volume] > first[volume] {
			return !slices.ContainsFunc(a.Blocks, func(b impl.Block) bool { return from <= b.UpTo && b.UpTo < volume })
		}
	}
	return false
}

func TestCheaperFromIsTheFirstOfAllVolumes(t *testing.T) {
	atFirst, atLast, between, never, equal, again := 0, 0, 0, 0, 0, 0
	for _, list := range comparedTariffs() {
		costs := [][]int{}
		for _, x := range list {
			costs = append(costs, wantedCosts(x))
		}
		for i, a := range list {
			for j, b := range list {
				want := wantedCheaper(costs[i], costs[j])
				if got, ok := impl.CheaperFrom(a, b); ok != (want >= 0) || got != max(want, 0) {
					t.Fatalf("CheaperFrom(%v, %v) = %d, %v, want %d", a, b, got, ok, want)
				}
				switch {
				case want == 0:
					atFirst++
				case want == 100000:
					atLast++
				case want > 0:
					between++
				case slices.Equal(costs[i], costs[j]):
					equal++
				default:
					never++
				}
				if want > 0 && isDearerAgain(a, costs[i], costs[j], want) {
					again++
				}
			}
		}
	}
	if min(atFirst, atLast, between, never, equal, again) < 500 {
		t.Error("too few of some kind:", atFirst, atLast, between, never, equal, again)
	}
}

func TestKnownRaisedTariffs(t *testing.T) {
	for _, k := range []struct {
		t       impl.Tariff
		percent int
		fee     int
		prices  []int
	}{
		{threeBlocks(), 10, 550, []int{6, 22, 2}}, {threeBlocks(), -10, 450, []int{5, 18, 2}}, {threeBlocks(), 50, 750, []int{8, 30, 3}}, {threeBlocks(), -50, 250, []int{3, 10, 1}}, {threeBlocks(), -90, 50, []int{1, 2, 0}}, {threeBlocks(), 99, 995, []int{10, 40, 4}},
		{threeBlocks(), 0, 500, []int{5, 20, 2}}, {threeBlocks(), 100, 1000, []int{10, 40, 4}}, {threeBlocks(), -100, 0, []int{0, 0, 0}}, {threeBlocks(), -99, 5, []int{0, 0, 0}}, {threeBlocks(), 1, 505, []int{5, 20, 2}}, {threeBlocks(), -1, 495, []int{5, 20, 2}},
		{flat(0, 0), 100, 0, []int{0}}, {flat(0, 0), -100, 0, []int{0}}, {flat(0, 0), 0, 0, []int{0}}, {flat(0, 0), 50, 0, []int{0}},
		// Just in the middle, and just below it.
		{flat(1, 3), 50, 2, []int{5}}, {flat(1, 3), 49, 1, []int{4}}, {flat(1, 3), -50, 1, []int{2}}, {flat(1, 3), -51, 0, []int{1}}, {flat(50, 150), 1, 51, []int{152}}, {flat(49, 149), 1, 49, []int{150}}, {flat(50, 150), -1, 50, []int{149}}, {flat(51, 151), -1, 50, []int{149}}, {flat(2, 10), -75, 1, []int{3}},
		// Up to the limits.
		{flat(50000, 500), 100, 100000, []int{1000}}, {flat(100000, 1000), 0, 100000, []int{1000}}, {flat(100000, 1000), -100, 0, []int{0}}, {flat(100000, 1000), -1, 99000, []int{990}}, {flat(0, 909), 10, 0, []int{1000}}, {flat(90909, 909), 10, 100000, []int{1000}}, {flat(66666, 962), 4, 69333, []int{1000}},
		// The Prices become equal, but the blocks stay.
		{tariff(7, [2]int{10, 4}, [2]int{20, 5}, [2]int{100000, 6}), -90, 1, []int{0, 1, 1}}, {firstMeters(), -100, 0, []int{0, 0, 0, 0, 0}},
		{bothEnds(), 0, 1, []int{1000, 0, 1, 0, 1000}},
	} {
		want := impl.Tariff{Fee: k.fee, Blocks: slices.Clone(k.t.Blocks)}
		for i, price := range k.prices {
			want.Blocks[i].Price = price
		}
		if got, ok := impl.RaiseTariff(k.t, k.percent); !ok || !sameTariff(got, want) {
			t.Errorf("RaiseTariff(%v, %d) = %v, %v, want %v", k.t, k.percent, got, ok, want)
		}
	}
}

func TestKnownTariffsThatAreRaisedTooMuch(t *testing.T) {
	for _, k := range []struct {
		t       impl.Tariff
		percent int
	}{
		{flat(50001, 0), 100}, {flat(0, 501), 100}, {flat(100000, 0), 1}, {flat(0, 1000), 1}, {flat(100000, 1000), 100}, {flat(0, 910), 10}, {flat(90910, 0), 10},
		// The exact number is within half a cent of the limit, but rounded up.
		{flat(66667, 0), 50}, {flat(0, 725), 38}, {flat(0, 690), 45}, {flat(0, 870), 15},
		// One Price of several is too great.
		{bothEnds(), 1}, {firstMeters(), 1}, {middleMeter(), 1}, {tariff(0, [2]int{1, 1}, [2]int{100000, 501}), 100}, {tariff(0, [2]int{1, 501}, [2]int{100000, 1}), 100},
	} {
		if got, ok := impl.RaiseTariff(k.t, k.percent); ok || !isNoTariff(got) {
			t.Errorf("RaiseTariff(%v, %d) = %v, %v", k.t, k.percent, got, ok)
		}
	}
}

// wantedRaised returns the whole number that is nearest to a raised number of cents, the greater one
// of two.
func wantedRaised(cents int, percent int) int {
	hundredths := 100*cents + percent*cents
	below := 0
	for 100*(below+1000) <= hundredths {
		below += 1000
	}
	for 100*(below+1) <= hundredths {
		below++
	}
	if 100*(below+1)-hundredths <= hundredths-100*below {
		return below + 1
	}
	return below
}

// wantedTariff raises the Fee and the Prices of a tariff, and returns false if one becomes too
// great.
func wantedTariff(t impl.Tariff, percent int) (impl.Tariff, bool) {
	raised := impl.Tariff{Fee: wantedRaised(t.Fee, percent)}
	good := raised.Fee <= 100000
	for _, b := range t.Blocks {
		price := wantedRaised(b.Price, percent)
		good = good && price <= 1000
		raised.Blocks = append(raised.Blocks, impl.Block{UpTo: b.UpTo, Price: price})
	}
	return raised, good
}

func TestTariffsAreRaisedByEveryPercentage(t *testing.T) {
	raised, tooMuch, middle := 0, 0, 0
	for first := 0; first <= 1000; first += 4 {
		x := tariff(101*first%100003, [2]int{1, first}, [2]int{10, min(first+1, 1000)}, [2]int{200, min(first+2, 1000)}, [2]int{100000, min(first+3, 1000)})
		x.Fee = min(x.Fee, 100000)
		for percent := -100; percent <= 100; percent++ {
			want, good := wantedTariff(x, percent)
			got, ok := impl.RaiseTariff(x, percent)
			if ok != good || good && !sameTariff(got, want) || !good && !isNoTariff(got) {
				t.Fatalf("RaiseTariff(%v, %d) = %v, %v, want %v, %v", x, percent, got, ok, want, good)
			}
			if good {
				raised++
			} else {
				tooMuch++
			}
			if good && slices.ContainsFunc(x.Blocks, func(b impl.Block) bool { return (100+percent)*b.Price%100 == 50 }) {
				middle++
			}
		}
	}
	if min(raised, tooMuch) < 5000 || middle < 1000 {
		t.Error("too few of some kind:", raised, tooMuch, middle)
	}
}

func TestFeesAreRaised(t *testing.T) {
	raised, tooMuch := 0, 0
	for fee := 0; fee <= 100000; fee += 9 {
		for _, percent := range []int{-100, -99, -75, -50, -1, 0, 1, 2, 25, 50, 99, 100} {
			want := wantedRaised(fee, percent)
			got, ok := impl.RaiseTariff(flat(fee, 0), percent)
			if want > 100000 {
				tooMuch++
				if ok || !isNoTariff(got) {
					t.Fatalf("RaiseTariff of the Fee %d by %d = %v, %v", fee, percent, got, ok)
				}
				continue
			}
			raised++
			if !ok || !sameTariff(got, flat(want, 0)) {
				t.Fatalf("RaiseTariff of the Fee %d by %d = %v, %v, want %d", fee, percent, got, ok, want)
			}
		}
	}
	if min(raised, tooMuch) < 10000 {
		t.Error("too few of some kind:", raised, tooMuch)
	}
}

func TestSomeTariffsAreRaised(t *testing.T) {
	r := rand.New(rand.NewSource(20))
	for _, x := range someTariffs() {
		for _, percent := range []int{-100, -99, -50, -1, 0, 1, 50, 99, 100, r.Intn(201) - 100} {
			want, good := wantedTariff(x, percent)
			got, ok := impl.RaiseTariff(x, percent)
			if ok != good || good && !sameTariff(got, want) || !good && !isNoTariff(got) || ok && !impl.IsValidTariff(got) {
				t.Fatalf("RaiseTariff(%v, %d) = %v, %v, want %v, %v", x, percent, got, ok, want, good)
			}
		}
	}
}

func TestKnownSimplerTariffs(t *testing.T) {
	for _, k := range []struct{ t, want impl.Tariff }{
		// Nothing can be joined.
		{threeBlocks(), threeBlocks()}, {flat(0, 0), flat(0, 0)}, {flat(100000, 1000), flat(100000, 1000)}, {firstMeters(), firstMeters()}, {bothEnds(), bothEnds()}, {middleMeter(), middleMeter()},
		// Two neighboring blocks at each place.
		{withPrices(4, 4), flat(9, 4)}, {withPrices(4, 4, 5), tariff(9, [2]int{20, 4}, [2]int{100000, 5})}, {withPrices(3, 4, 4), tariff(9, [2]int{10, 3}, [2]int{100000, 4})},
		{withPrices(1, 1, 2, 3, 4), tariff(9, [2]int{20, 1}, [2]int{30, 2}, [2]int{40, 3}, [2]int{100000, 4})}, {withPrices(1, 2, 2, 3, 4), tariff(9, [2]int{10, 1}, [2]int{30, 2}, [2]int{40, 3}, [2]int{100000, 4})},
		{withPrices(1, 2, 3, 3, 4), tariff(9, [2]int{10, 1}, [2]int{20, 2}, [2]int{40, 3}, [2]int{100000, 4})}, {withPrices(1, 2, 3, 4, 4), tariff(9, [2]int{10, 1}, [2]int{20, 2}, [2]int{30, 3}, [2]int{100000, 4})},
		// Three and more neighboring blocks, and all of them.
		{withPrices(2, 2, 2), flat(9, 2)}, {withPrices(2, 2, 2, 1), tariff(9, [2]int{30, 2}, [2]int{100000, 1})}, {withPrices(1, 2, 2, 2), tariff(9, [2]int{10, 1}, [2]int{100000, 2})}, {withPrices(1, 2, 2, 2, 3), tariff(9, [2]int{10, 1}, [2]int{40, 2}, [2]int{100000, 3})},
		{withPrices(2, 2, 2, 2), flat(9, 2)}, {withPrices(2, 2, 2, 2, 2), flat(9, 2)}, {withPrices(0, 0, 0, 0, 0), flat(9, 0)}, {withPrices(2, 2, 2, 2, 1), tariff(9, [2]int{40, 2}, [2]int{100000, 1})}, {withPrices(1, 2, 2, 2, 2), tariff(9, [2]int{10, 1}, [2]int{100000, 2})},
		// Two groups of neighboring blocks.
		{withPrices(1, 1, 2, 2), tariff(9, [2]int{20, 1}, [2]int{100000, 2})}, {withPrices(1, 1, 1, 2, 2), tariff(9, [2]int{30, 1}, [2]int{100000, 2})}, {withPrices(1, 1, 2, 2, 1), tariff(9, [2]int{20, 1}, [2]int{40, 2}, [2]int{100000, 1})}, {withPrices(1, 1, 2, 1, 1), tariff(9, [2]int{20, 1}, [2]int{30, 2}, [2]int{100000, 1})},
		// Equal Prices that are not neighbors.
		{withPrices(4, 5, 4), withPrices(4, 5, 4)}, {withPrices(1, 2, 1, 2, 1), withPrices(1, 2, 1, 2, 1)}, {withPrices(0, 1000, 0), withPrices(0, 1000, 0)},
		// Blocks of one cubic meter.
		{tariff(7, [2]int{1, 4}, [2]int{2, 4}, [2]int{3, 4}, [2]int{4, 4}, [2]int{100000, 4}), flat(7, 4)}, {tariff(7, [2]int{1, 0}, [2]int{2, 0}, [2]int{99999, 1}, [2]int{100000, 1}), tariff(7, [2]int{2, 0}, [2]int{100000, 1})},
	} {
		if got, ok := impl.SimplerTariff(k.t); !ok || !sameTariff(got, k.want) {
			t.Errorf("SimplerTariff(%v) = %v, %v, want %v", k.t, got, ok, k.want)
		}
	}
}

// wantedBlocks returns the fewest blocks with which all volumes have these costs: a block ends where
// the price of the next cubic meter is another one.
func wantedBlocks(costs []int) []impl.Block {
	list := []impl.Block{}
	for meter := 1; meter <= 100000; meter++ {
		price := costs[meter] - costs[meter-1]
		if meter == 100000 || costs[meter+1]-costs[meter] != price {
			list = append(list, impl.Block{UpTo: meter, Price: price})
		}
	}
	return list
}

func TestSimplerTariffsCostTheSameForEveryVolume(t *testing.T) {
	costs, simplerCosts := make([]int, 100001), make([]int, 100001)
	joined, kept := 0, 0
	for i, x := range someTariffs() {
		if i%2 == 1 {
			continue
		}
		fillCosts(costs, x)
		simpler, ok := impl.SimplerTariff(x)
		if !ok || !impl.IsValidTariff(simpler) || simpler.Fee != x.Fee || !slices.Equal(simpler.Blocks, wantedBlocks(costs)) {
			t.Fatalf("SimplerTariff(%v) = %v, %v", x, simpler, ok)
		}
		if fillCosts(simplerCosts, simpler); !slices.Equal(simplerCosts, costs) {
			t.Fatalf("SimplerTariff(%v) = %v, which costs something else", x, simpler)
		}
		if again, ok := impl.SimplerTariff(simpler); !ok || !sameTariff(again, simpler) {
			t.Fatalf("SimplerTariff(%v) = %v, %v", simpler, again, ok)
		}
		if volume, ok := impl.CheaperFrom(x, simpler); ok {
			t.Fatalf("SimplerTariff(%v) = %v, which is cheaper at %d", x, simpler, volume)
		}
		if len(simpler.Blocks) < len(x.Blocks) {
			joined++
		} else {
			kept++
		}
	}
	if min(joined, kept) < 500 {
		t.Error("too few of some kind:", joined, kept)
	}
}

// checkNoCost checks that the functions of a tariff and a volume return zero values.
func checkNoCost(t *testing.T, x impl.Tariff, volume int) {
	t.Helper()
	if cost, ok := impl.CostOf(x, volume); ok || cost != 0 {
		t.Errorf("CostOf(%v, %d) = %d, %v", x, volume, cost, ok)
	}
	if price, ok := impl.NextPrice(x, volume); ok || price != 0 {
		t.Errorf("NextPrice(%v, %d) = %d, %v", x, volume, price, ok)
	}
	if num, den, ok := impl.MeanPrice(x, volume); ok || num != 0 || den != 0 {
		t.Errorf("MeanPrice(%v, %d) = %d, %d, %v", x, volume, num, den, ok)
	}
	if parts, ok := impl.SplitCost(x, volume); ok || len(parts) != 0 {
		t.Errorf("SplitCost(%v, %d) = %v, %v", x, volume, parts, ok)
	}
}

// checkNoVolume checks that there is no volume for an amount of cents.
func checkNoVolume(t *testing.T, x impl.Tariff, cents int) {
	t.Helper()
	if volume, ok := impl.VolumeFor(x, cents); ok || volume != 0 {
		t.Errorf("VolumeFor(%v, %d) = %d, %v", x, cents, volume, ok)
	}
}

// checkNotCheaper checks that there is no volume at which a tariff costs less than another.
func checkNotCheaper(t *testing.T, a impl.Tariff, b impl.Tariff) {
	t.Helper()
	if volume, ok := impl.CheaperFrom(a, b); ok || volume != 0 {
		t.Errorf("CheaperFrom(%v, %v) = %d, %v", a, b, volume, ok)
	}
}

// checkNoRaise checks that a tariff cannot be raised by a percentage.
func checkNoRaise(t *testing.T, x impl.Tariff, percent int) {
	t.Helper()
	if raised, ok := impl.RaiseTariff(x, percent); ok || !isNoTariff(raised) {
		t.Errorf("RaiseTariff(%v, %d) = %v, %v", x, percent, raised, ok)
	}
}

// checkNoTariff checks that every function returns zero values for a tariff that is not valid.
func checkNoTariff(t *testing.T, x impl.Tariff) {
	t.Helper()
	for _, volume := range append([]int{0, 1, 2, 3, 5, 9, 10, 11, 20, 60, 1000, 99998, 99999, 100000}, noVolumes...) {
		checkNoCost(t, x, volume)
	}
	for _, cents := range append([]int{0, 1, 2, 5, 500, 1000, 100000, 100001, 100100000, 999999999, 1000000000, x.Fee}, noCents...) {
		checkNoVolume(t, x, cents)
	}
	for _, percent := range append([]int{-100, -99, -50, -1, 0, 1, 50, 99, 100}, noPercentages...) {
		checkNoRaise(t, x, percent)
	}
	if yes, ok := impl.IsProgressive(x); yes || ok {
		t.Errorf("IsProgressive(%v) = %v, %v", x, yes, ok)
	}
	if simpler, ok := impl.SimplerTariff(x); ok || !isNoTariff(simpler) {
		t.Errorf("SimplerTariff(%v) = %v, %v", x, simpler, ok)
	}
}

func TestInvalidTariffsYieldZeroValues(t *testing.T) {
	for _, x := range invalidTariffs() {
		checkNoTariff(t, x)
		for _, other := range append(invalidTariffs(), knownTariffs()...) {
			checkNotCheaper(t, x, other)
			checkNotCheaper(t, other, x)
		}
	}
}

func TestOtherVolumesCentsAndPercentagesYieldZeroValues(t *testing.T) {
	for _, x := range append(knownTariffs(), smallTariffs()...) {
		for _, volume := range noVolumes {
			checkNoCost(t, x, volume)
		}
		for _, cents := range noCents {
			checkNoVolume(t, x, cents)
		}
		for _, percent := range noPercentages {
			checkNoRaise(t, x, percent)
		}
	}
}

// blocksBehind returns a tariff whose memory goes on behind its blocks, and that whole memory.
func blocksBehind(t impl.Tariff) (impl.Tariff, []impl.Block) {
	memory := append(slices.Clone(t.Blocks), impl.Block{UpTo: 100000, Price: 3}, impl.Block{UpTo: 100001, Price: 4}, impl.Block{UpTo: -5, Price: 2000})
	return impl.Tariff{Fee: t.Fee, Blocks: memory[:len(t.Blocks)]}, memory
}

// spoilBlocks overwrites all memory of a list of blocks.
func spoilBlocks(list []impl.Block) {
	all := list[:cap(list)]
	for i := range all {
		all[i] = impl.Block{UpTo: -7, Price: -7}
	}
}

// callAllForTariffs calls every function of the chapter and overwrites all memory of the results.
func callAllForTariffs(a impl.Tariff, b impl.Tariff) {
	impl.IsValidTariff(a)
	for _, number := range []int{-1, 0, 1, 10, 100, 500, 99999, 100000, 100001} {
		impl.CostOf(a, number)
		impl.NextPrice(a, number)
		impl.VolumeFor(a, number)
		impl.MeanPrice(a, number)
		parts, _ := impl.SplitCost(a, number)
		all := parts[:cap(parts)]
		for i := range all {
			all[i] = -7
		}
		raised, _ := impl.RaiseTariff(a, number)
		spoilBlocks(raised.Blocks)
		lowered, _ := impl.RaiseTariff(a, -number)
		spoilBlocks(lowered.Blocks)
	}
	impl.IsProgressive(a)
	impl.CheaperFrom(a, b)
	simpler, _ := impl.SimplerTariff(a)
	spoilBlocks(simpler.Blocks)
}

// checkedTariffs returns some of all tariffs, valid or not.
func checkedTariffs() []impl.Tariff {
	list := append(invalidTariffs(), knownTariffs()...)
	for i, x := range someTariffs() {
		if i%5 == 0 {
			list = append(list, x)
		}
	}
	return list
}

func TestTariffFunctionsLeaveTheirArgumentsAlone(t *testing.T) {
	list := checkedTariffs()
	for i, x := range list {
		a, wholeA := blocksBehind(x)
		b, wholeB := blocksBehind(list[(i*37+11)%len(list)])
		beforeA, beforeB := slices.Clone(wholeA), slices.Clone(wholeB)
		callAllForTariffs(a, b)
		callAllForTariffs(b, a)
		callAllForTariffs(a, a)
		if !slices.Equal(wholeA, beforeA) || !slices.Equal(wholeB, beforeB) {
			t.Fatalf("an argument is modified: %v to %v, %v to %v", beforeA, wholeA, beforeB, wholeB)
		}
	}
}

// resultsOf returns what the functions return for a tariff, and another one to compare it with.
func resultsOf(x impl.Tariff, other impl.Tariff) ([]int, []impl.Tariff) {
	numbers, tariffs := []int{}, []impl.Tariff{}
	for _, volume := range []int{0, 1, 10, 60, 99999, 100000} {
		cost, _ := impl.CostOf(x, volume)
		price, _ := impl.NextPrice(x, volume)
		num, den, _ := impl.MeanPrice(x, volume)
		parts, _ := impl.SplitCost(x, volume)
		until, _ := impl.VolumeFor(x, x.Fee+volume)
		numbers = append(append(numbers, cost, price, num, den, until), parts...)
	}
	from, isCheaper := impl.CheaperFrom(x, other)
	back, isDearer := impl.CheaperFrom(other, x)
	progressive, ok := impl.IsProgressive(x)
	for _, is := range []bool{impl.IsValidTariff(x), isCheaper, isDearer, progressive, ok} {
		if is {
			from++
		}
		from *= 2
	}
	for _, percent := range []int{-50, 0, 50} {
		raised, _ := impl.RaiseTariff(x, percent)
		tariffs = append(tariffs, raised)
	}
	simpler, _ := impl.SimplerTariff(x)
	return append(numbers, from, back), append(tariffs, simpler)
}

func TestNothingBehindTheBlocksIsRead(t *testing.T) {
	for _, full := range checkedTariffs() {
		for length := range len(full.Blocks) + 1 {
			short := impl.Tariff{Fee: full.Fee, Blocks: full.Blocks[:length]}
			alone := impl.Tariff{Fee: full.Fee, Blocks: slices.Clip(slices.Clone(short.Blocks))}
			longer, _ := blocksBehind(alone)
			numbers, tariffs := resultsOf(alone, flat(10, 2))
			for _, x := range []impl.Tariff{short, longer} {
				got, others := resultsOf(x, flat(10, 2))
				if !slices.Equal(got, numbers) || !slices.EqualFunc(others, tariffs, sameTariff) {
					t.Fatalf("%v is read behind its end: %v, %v, want %v, %v", alone, got, others, numbers, tariffs)
				}
			}
			if length < len(full.Blocks) && impl.IsValidTariff(full) {
				checkNoTariff(t, short)
			}
		}
	}
}

func TestTariffResultsShareNoMemory(t *testing.T) {
	for _, x := range checkedTariffs() {
		parts, _ := impl.SplitCost(x, 12)
		others, _ := impl.SplitCost(x, 12)
		want := slices.Clone(parts)
		for i := range parts {
			parts[i] = -7
		}
		if third, _ := impl.SplitCost(x, 12); !slices.Equal(others, want) || !slices.Equal(third, want) {
			t.Fatal("shares memory:", want, others, third)
		}
		numbers, wanted := resultsOf(x, flat(10, 2))
		_, first := resultsOf(x, flat(10, 2))
		_, second := resultsOf(x, flat(10, 2))
		for i := range first {
			spoilBlocks(first[i].Blocks)
			// The others are what they were, and so is what is returned next.
			for j := i + 1; j < len(first); j++ {
				if !sameTariff(first[j], wanted[j]) {
					t.Fatal("shares memory:", wanted[j], first[j])
				}
			}
		}
		again, third := resultsOf(x, flat(10, 2))
		if !slices.Equal(again, numbers) || !slices.EqualFunc(second, wanted, sameTariff) || !slices.EqualFunc(third, wanted, sameTariff) {
			t.Fatal("shares memory:", wanted, second, third)
		}
	}
}
