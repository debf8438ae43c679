package tests

import (
	"math"
	"math/big"
	"math/rand"
	"regexp"
	"strconv"
	"strings"
	"testing"

	"loop.example/g00853/impl"
)

var allUnits = []int{impl.UnitLiterMinute, impl.UnitLiterSecond, impl.UnitCubicHour, impl.UnitCubicDay}

var otherUnits = []int{0, 5, -1, 6, 100, math.MinInt, math.MaxInt}

var otherValues = []int{-1, -2, impl.MaxAmount + 1, 2 * impl.MaxAmount, -impl.MaxAmount, 1 << 32, math.MinInt, math.MaxInt}

func amount(value int, unit int) impl.Amount { return impl.Amount{Value: value, Unit: unit} }

// invalidAmounts returns amounts with a wrong Value, a wrong Unit or both.
func invalidAmounts() []impl.Amount {
	list := []impl.Amount{{}}
	for _, value := range otherValues {
		for _, unit := range append(allUnits[:4:4], otherUnits...) {
			list = append(list, amount(value, unit))
		}
	}
	for _, unit := range otherUnits {
		list = append(list, amount(0, unit), amount(1, unit), amount(impl.MaxAmount, unit))
	}
	return list
}

// someValues returns the limits of a Value, all small ones, all beside a power of ten, and
// others in between.
func someValues() []int {
	values := []int{impl.MaxAmount - 1, impl.MaxAmount}
	for value := range 150 {
		values = append(values, value)
	}
	for power := 1000; power < impl.MaxAmount; power *= 10 {
		values = append(values, power-1, power, power+1)
	}
	for value := 777; value < impl.MaxAmount; value += 39119 {
		values = append(values, value)
	}
	return values
}

// wantedSecond returns the liters per second of one of a unit.
func wantedSecond(unit int) *big.Rat {
	switch unit {
	case impl.UnitLiterMinute:
		return big.NewRat(1, 60)
	case impl.UnitLiterSecond:
		return big.NewRat(1, 1)
	case impl.UnitCubicHour:
		return big.NewRat(1000, 3600)
	}
	return big.NewRat(1000, 86400)
}

// wantedFlow returns the liters per second of an amount.
func wantedFlow(a impl.Amount) *big.Rat {
	return new(big.Rat).Mul(big.NewRat(int64(a.Value), 1), wantedSecond(a.Unit))
}

// isFraction reports whether num and den are want in lowest terms, with a positive den, and 0
// as 0 and 1, as a big.Rat has them.
func isFraction(num int, den int, want *big.Rat) bool {
	return want.Num().Cmp(big.NewInt(int64(num))) == 0 && want.Denom().Cmp(big.NewInt(int64(den))) == 0
}

func TestIsValidAmountMeetsTheLimits(t *testing.T) {
	for _, unit := range allUnits {
		for _, value := range []int{0, 1, 999999, impl.MaxAmount} {
			if !impl.IsValidAmount(amount(value, unit)) {
				t.Error("refused", value, unit)
			}
		}
	}
	for _, a := range invalidAmounts() {
		if impl.IsValidAmount(a) {
			t.Error("accepted", a)
		}
	}
}

func TestTextsOfKnownAmounts(t *testing.T) {
	for want, a := range map[string]impl.Amount{
		"0 l/min": amount(0, 1), "0 l/s": amount(0, 2), "0 m3/h": amount(0, 3), "0 m3/d": amount(0, 4),
		"12 l/s": amount(12, 2), "7 l/min": amount(7, 1), "10 m3/h": amount(10, 3), "345 m3/d": amount(345, 4),
		"999999 l/min": amount(999999, 1), "1000000 l/min": amount(impl.MaxAmount, 1), "1000000 l/s": amount(impl.MaxAmount, 2),
		"1000000 m3/h": amount(impl.MaxAmount, 3), "1000000 m3/d": amount(impl.MaxAmount, 4), "100000 m3/d": amount(100000, 4),
	} {
		if s, ok := impl.AmountText(a); !ok || s != want {
			t.Errorf("AmountText(%v) = %q, %v, want %q", a, s, ok, want)
		}
		if back, ok := impl.ParseAmount(want); !ok || back != a {
			t.Errorf("ParseAmount(%q) = %v, %v, want %v", want, back, ok, a)
		}
	}
}

func TestAmountsAreRecoveredFromTheirTexts(t *testing.T) {
	for unit, name := range map[int]string{1: " l/min", 2: " l/s", 3: " m3/h", 4: " m3/d"} {
		for value := 0; value <= impl.MaxAmount; value++ {
			a := amount(value, unit)
			s, ok := impl.AmountText(a)
			if !ok || s != strconv.Itoa(value)+name {
				t.Fatalf("AmountText(%v) = %q, %v", a, s, ok)
			}
			if back, ok := impl.ParseAmount(s); !ok || back != a {
				t.Fatalf("ParseAmount(%q) = %v, %v", s, back, ok)
			}
		}
	}
}

func TestAmountTextRefusesOtherAmounts(t *testing.T) {
	for _, a := range invalidAmounts() {
		if s, ok := impl.AmountText(a); ok || s != "" {
			t.Errorf("AmountText(%v) = %q, %v", a, s, ok)
		}
	}
}

func TestParseAmountRefusesOtherStrings(t *testing.T) {
	for _, s := range []string{
		"", " ", "12", "12 ", " 12", "l/s", " l/s", "12 l", "12 s", "12l/s", "12 l/ s", "12 /s", "12 l/", "12 ls", "12/l/s",
		"012 l/s", "00 l/s", "0012 m3/d", "01000000 l/s", "12  l/s", " 12 l/s", "12 l/s ", "12 l/s  ", "1 2 l/s", "12\tl/s", "12\nl/s", "12 l/s\n", "12 l/s\x00", "\x0012 l/s",
		"+12 l/s", "-12 l/s", "-0 l/s", "+0 l/s", "--1 l/s", "12. l/s", "12.0 l/s", "1e3 l/s", "0x1 l/s", "1_0 l/s", "1,0 l/s", "x l/s", "\u0661 l/s",
		"1000001 l/min", "1000001 l/s", "1000001 m3/h", "1000001 m3/d", "10000000 l/s", "9999999 m3/d", "-1000000 l/s",
		"9223372036854775807 l/s", "9223372036854775808 l/s", "18446744073709551617 l/s", "-9223372036854775808 l/s", "-1 m3/d",
		"12 L/s", "12 l/S", "12 l/h", "12 l/d", "12 m3/s", "12 m3/min", "12 m3", "12 m\u00b3/h", "12 M3/h", "12 m3/H", "12 m3/day", "12 m3/hd", "12 l/mi", "12 l/minn", "12 l/m", "12 bar", "12 1", "12 2",
		"12 l/s l/s", "12 12 l/s", "12 l/s12 l/s", "12 l/min l/s", "l/s 12",
		strings.Repeat("9", 100000) + " l/s", strings.Repeat("0", 100000) + "1 l/s", strings.Repeat(" ", 100000) + "l/s", "1" + strings.Repeat(" l/s", 100000), strings.Repeat("1 ", 100000),
	} {
		if a, ok := impl.ParseAmount(s); ok || a != (impl.Amount{}) {
			t.Errorf("ParseAmount(%.80q) = %v, %v", s, a, ok)
		}
	}
}

func TestParseAmountReadsExactlyTheTexts(t *testing.T) {
	shape := regexp.MustCompile(`\A(?:0|[1-9][0-9]{0,5}|1000000) (?:l/min|l/s|m3/h|m3/d)\z`)
	check := func(s string) {
		a, ok := impl.ParseAmount(s)
		if ok != shape.MatchString(s) || !ok && a != (impl.Amount{}) {
			t.Fatalf("ParseAmount(%q) = %v, %v", s, a, ok)
		}
		if text, fine := impl.AmountText(a); fine != ok || text != s && ok {
			t.Fatalf("ParseAmount(%q) = %v, which is written %q", s, a, text)
		}
	}
	for _, s := range []string{"0 l/min", "7 l/s", "12 l/s", "10 m3/h", "345 m3/d", "99999 l/s", "999999 l/min", "1000000 m3/h", "1000000 m3/d", "100000 l/min"} {
		for i := range len(s) + 1 {
			for c := range 256 {
				check(s[:i] + string([]byte{byte(c)}) + s[i:])
				if i < len(s) {
					check(s[:i] + string([]byte{byte(c)}) + s[i+1:])
				}
			}
			for j := i; j <= len(s); j++ {
				check(s[:i] + s[j:])
				check(s[:j] + s[i:])
				check(s[i:j])
			}
		}
	}
	for _, number := range wordsOver("-+0 19", 4) {
		for _, name := range []string{"l/min", " l/min", "l/s", " l/s", "m3/h", " m3/h", "m3/d", " m3/d", ""} {
			check(number + name)
		}
	}
}

func TestKnownAmountsInOtherUnits(t *testing.T) {
	for _, c := range []struct {
		a              impl.Amount
		unit, num, den int
	}{
		{amount(12, 2), 1, 720, 1}, {amount(1, 1), 3, 3, 50}, {amount(1, 1), 2, 1, 60}, {amount(1, 1), 4, 36, 25},
		{amount(1, 2), 3, 18, 5}, {amount(1, 2), 4, 432, 5}, {amount(1, 3), 1, 50, 3}, {amount(1, 3), 2, 5, 18}, {amount(1, 3), 4, 24, 1},
		{amount(1, 4), 1, 25, 36}, {amount(1, 4), 2, 5, 432}, {amount(1, 4), 3, 1, 24}, {amount(7, 4), 3, 7, 24}, {amount(18, 4), 3, 3, 4},
		{amount(90, 1), 2, 3, 2}, {amount(5, 2), 3, 18, 1}, {amount(5, 2), 4, 432, 1}, {amount(36, 4), 1, 25, 1}, {amount(432, 4), 2, 5, 1},
		{amount(0, 1), 1, 0, 1}, {amount(0, 1), 4, 0, 1}, {amount(0, 2), 3, 0, 1}, {amount(0, 3), 2, 0, 1}, {amount(0, 4), 1, 0, 1}, {amount(0, 4), 2, 0, 1},
		{amount(impl.MaxAmount, 1), 1, 1000000, 1}, {amount(impl.MaxAmount, 2), 4, 86400000, 1}, {amount(impl.MaxAmount, 2), 1, 60000000, 1},
		{amount(impl.MaxAmount, 4), 2, 312500, 27}, {amount(impl.MaxAmount, 3), 1, 50000000, 3}, {amount(999999, 4), 3, 333333, 8}, {amount(999999, 1), 2, 333333, 20},
	} {
		if num, den, ok := impl.ConvertAmount(c.a, c.unit); !ok || num != c.num || den != c.den {
			t.Errorf("ConvertAmount(%v, %d) = %d, %d, %v, want %d, %d", c.a, c.unit, num, den, ok, c.num, c.den)
		}
	}
}

func TestAmountsAreRecoveredFromOtherUnits(t *testing.T) {
	for _, unit := range allUnits {
		for _, other := range allUnits {
			upNum, upDen, ok := impl.ConvertAmount(amount(1, other), unit)
			if !ok {
				t.Fatal("one of unit", other, "in unit", unit)
			}
			for value := 0; value <= impl.MaxAmount; value += 1 + value/200 {
				a := amount(value, unit)
				num, den, ok := impl.ConvertAmount(a, other)
				if !ok || num*upNum != value*den*upDen {
					t.Fatalf("ConvertAmount(%v, %d) = %d, %d, %v, but one of this is %d/%d", a, other, num, den, ok, upNum, upDen)
				}
				if den != 1 || num > impl.MaxAmount {
					continue
				}
				if back, one, ok := impl.ConvertAmount(amount(num, other), unit); !ok || back != value || one != 1 {
					t.Fatalf("%v is %d of unit %d, which is %d/%d of it, %v", a, num, other, back, one, ok)
				}
				if order, ok := impl.CompareAmounts(a, amount(num, other)); !ok || order != 0 {
					t.Fatalf("%v is %d of unit %d, but compared %d, %v", a, num, other, order, ok)
				}
			}
		}
	}
}

func TestConvertAmountFollowsTheUnits(t *testing.T) {
	for _, unit := range allUnits {
		for _, other := range allUnits {
			for _, value := range someValues() {
				a := amount(value, unit)
				want := new(big.Rat).Quo(wantedFlow(a), wantedSecond(other))
				if num, den, ok := impl.ConvertAmount(a, other); !ok || !isFraction(num, den, want) {
					t.Fatalf("ConvertAmount(%v, %d) = %d, %d, %v, want %v", a, other, num, den, ok, want)
				}
			}
		}
	}
}

func TestConvertAmountRefusesOtherArguments(t *testing.T) {
	refuses := func(a impl.Amount, unit int) {
		if num, den, ok := impl.ConvertAmount(a, unit); ok || num != 0 || den != 0 {
			t.Errorf("ConvertAmount(%v, %d) = %d, %d, %v", a, unit, num, den, ok)
		}
	}
	for _, a := range invalidAmounts() {
		for _, unit := range append(allUnits[:4:4], otherUnits...) {
			refuses(a, unit)
		}
	}
	for _, unit := range otherUnits {
		for _, own := range allUnits {
			refuses(amount(0, own), unit)
			refuses(amount(impl.MaxAmount, own), unit)
		}
	}
}

func TestEqualFlowsInDifferentUnits(t *testing.T) {
	for _, c := range [][2]impl.Amount{
		{amount(60, 1), amount(1, 2)}, {amount(50, 1), amount(3, 3)}, {amount(25, 1), amount(36, 4)}, {amount(5, 2), amount(18, 3)},
		{amount(5, 2), amount(432, 4)}, {amount(1, 3), amount(24, 4)}, {amount(3, 1), amount(3, 1)}, {amount(impl.MaxAmount, 3), amount(impl.MaxAmount, 3)},
		{amount(999960, 1), amount(16666, 2)}, {amount(999984, 4), amount(41666, 3)}, {amount(1000000, 1), amount(60000, 3)}, {amount(999936, 4), amount(694400, 1)},
	} {
		smaller := [2]impl.Amount{c[0], c[1]}
		smaller[0].Value--
		smaller[1].Value--
		for _, d := range []struct {
			a, b impl.Amount
			want int
		}{
			{c[0], c[1], 0}, {c[1], c[0], 0}, {smaller[0], c[1], 1}, {smaller[1], c[0], 1}, {c[0], smaller[1], 2}, {c[1], smaller[0], 2},
		} {
			if order, ok := impl.CompareAmounts(d.a, d.b); !ok || order != d.want {
				t.Errorf("CompareAmounts(%v, %v) = %d, %v, want %d", d.a, d.b, order, ok, d.want)
			}
		}
	}
}

// wantedOrder tells what CompareAmounts has to return.
func wantedOrder(a impl.Amount, b impl.Amount) int {
	return map[int]int{-1: 1, 0: 0, 1: 2}[wantedFlow(a).Cmp(wantedFlow(b))]
}

func TestCompareAmountsFollowsTheFlows(t *testing.T) {
	values := []int{0, 1, 2, 3, 24, 25, 35, 36, 37, 59, 60, 61, 1440, 11574, 11575, 41666, 41667, 86400, 277777, 277778, 694444, 694445, 999999, impl.MaxAmount}
	for _, first := range allUnits {
		for _, second := range allUnits {
			for _, x := range values {
				for _, y := range values {
					a, b := amount(x, first), amount(y, second)
					if order, ok := impl.CompareAmounts(a, b); !ok || order != wantedOrder(a, b) {
						t.Fatalf("CompareAmounts(%v, %v) = %d, %v, want %d", a, b, order, ok, wantedOrder(a, b))
					}
				}
			}
		}
	}
}

func TestCompareAmountsRefusesOtherAmounts(t *testing.T) {
	for _, a := range invalidAmounts() {
		for _, b := range []impl.Amount{amount(0, 1), amount(1, 2), amount(impl.MaxAmount, 4), a} {
			for _, pair := range [][2]impl.Amount{{a, b}, {b, a}} {
				if order, ok := impl.CompareAmounts(pair[0], pair[1]); ok || order != 0 {
					t.Errorf("CompareAmounts(%v, %v) = %d, %v", pair[0], pair[1], order, ok)
				}
			}
		}
	}
}

func TestKnownSumsOfAmounts(t *testing.T) {
	for _, c := range []struct {
		a, b           impl.Amount
		unit, num, den int
	}{
		{amount(1, 2), amount(1, 1), 1, 61, 1}, {amount(1, 2), amount(1, 1), 2, 61, 60}, {amount(1, 2), amount(1, 1), 3, 183, 50}, {amount(1, 3), amount(1, 4), 3, 25, 24},
		{amount(1, 3), amount(1, 4), 4, 25, 1}, {amount(1, 3), amount(2, 3), 1, 50, 1}, {amount(1, 3), amount(1, 3), 1, 100, 3}, {amount(13, 2), amount(5, 2), 3, 324, 5},
		{amount(0, 1), amount(0, 4), 2, 0, 1}, {amount(0, 3), amount(0, 3), 3, 0, 1}, {amount(0, 2), amount(7, 4), 4, 7, 1}, {amount(7, 4), amount(0, 2), 3, 7, 24},
		{amount(impl.MaxAmount, 2), amount(impl.MaxAmount, 2), 4, 172800000, 1}, {amount(impl.MaxAmount, 4), amount(impl.MaxAmount, 4), 4, 2000000, 1},
		{amount(impl.MaxAmount, 1), amount(1, 1), 1, 1000001, 1}, {amount(impl.MaxAmount, 4), amount(impl.MaxAmount, 4), 2, 625000, 27},
	} {
		if num, den, ok := impl.AddAmounts(c.a, c.b, c.unit); !ok || num != c.num || den != c.den {
			t.Errorf("AddAmounts(%v, %v, %d) = %d, %d, %v, want %d, %d", c.a, c.b, c.unit, num, den, ok, c.num, c.den)
		}
	}
}

func TestAddAmountsFollowsTheUnits(t *testing.T) {
	values := []int{0, 1, 2, 5, 7, 18, 23, 24, 25, 36, 59, 60, 61, 431, 432, 1000, 99991, 999999, impl.MaxAmount}
	for _, first := range allUnits {
		for _, second := range allUnits {
			for _, unit := range allUnits {
				for _, x := range values {
					for _, y := range values {
						a, b := amount(x, first), amount(y, second)
						want := new(big.Rat).Add(wantedFlow(a), wantedFlow(b))
						want.Quo(want, wantedSecond(unit))
						if num, den, ok := impl.AddAmounts(a, b, unit); !ok || !isFraction(num, den, want) {
							t.Fatalf("AddAmounts(%v, %v, %d) = %d, %d, %v, want %v", a, b, unit, num, den, ok, want)
						}
					}
				}
			}
		}
	}
}

func TestAddAmountsRefusesOtherArguments(t *testing.T) {
	refuses := func(a impl.Amount, b impl.Amount, unit int) {
		if num, den, ok := impl.AddAmounts(a, b, unit); ok || num != 0 || den != 0 {
			t.Errorf("AddAmounts(%v, %v, %d) = %d, %d, %v", a, b, unit, num, den, ok)
		}
	}
	valid := []impl.Amount{amount(0, 1), amount(1, 2), amount(5, 3), amount(impl.MaxAmount, 4)}
	for _, a := range invalidAmounts() {
		for _, unit := range allUnits {
			refuses(a, a, unit)
			for _, b := range valid {
				refuses(a, b, unit)
				refuses(b, a, unit)
			}
		}
	}
	for _, unit := range otherUnits {
		for _, a := range valid {
			refuses(a, a, unit)
			refuses(a, amount(0, 1), unit)
		}
	}
	refuses(amount(-1, 1), amount(1, 1), 1)
	refuses(amount(3, 1), amount(-1, 1), 1)
}

func TestKnownVolumes(t *testing.T) {
	for _, c := range []struct {
		a                 impl.Amount
		minutes, num, den int
	}{
		{amount(1, 3), 60, 1000, 1}, {amount(1, 1), 1, 1, 1}, {amount(1, 2), 1, 60, 1}, {amount(1, 3), 1, 50, 3}, {amount(1, 4), 1, 25, 36},
		{amount(1, 4), 1440, 1000, 1}, {amount(1, 4), 9, 25, 4}, {amount(7, 3), 10, 3500, 3}, {amount(1, 3), 3, 50, 1},
		{amount(5, 1), 0, 0, 1}, {amount(impl.MaxAmount, 4), 0, 0, 1}, {amount(0, 1), 10000, 0, 1}, {amount(0, 4), 7, 0, 1}, {amount(0, 3), 0, 0, 1},
		{amount(impl.MaxAmount, 1), 10000, 10000000000, 1}, {amount(impl.MaxAmount, 2), 10000, 600000000000, 1},
		{amount(impl.MaxAmount, 3), 10000, 500000000000, 3}, {amount(impl.MaxAmount, 4), 10000, 62500000000, 9},
	} {
		if num, den, ok := impl.VolumeIn(c.a, c.minutes); !ok || num != c.num || den != c.den {
			t.Errorf("VolumeIn(%v, %d) = %d, %d, %v, want %d, %d", c.a, c.minutes, num, den, ok, c.num, c.den)
		}
	}
}

func TestVolumeInFollowsTheUnits(t *testing.T) {
	for _, unit := range allUnits {
		for _, value := range someValues() {
			for _, minutes := range []int{0, 1, 2, 3, 7, 9, 36, 59, 60, 61, 1439, 1440, 1441, 9973, 9999, 10000} {
				a := amount(value, unit)
				want := new(big.Rat).Mul(wantedFlow(a), big.NewRat(int64(60*minutes), 1))
				if num, den, ok := impl.VolumeIn(a, minutes); !ok || !isFraction(num, den, want) {
					t.Fatalf("VolumeIn(%v, %d) = %d, %d, %v, want %v", a, minutes, num, den, ok, want)
				}
			}
		}
	}
}

func TestVolumeInRefusesOtherArguments(t *testing.T) {
	refuses := func(a impl.Amount, minutes int) {
		if num, den, ok := impl.VolumeIn(a, minutes); ok || num != 0 || den != 0 {
			t.Errorf("VolumeIn(%v, %d) = %d, %d, %v", a, minutes, num, den, ok)
		}
	}
	for _, a := range invalidAmounts() {
		for _, minutes := range []int{0, 1, 60, 10000, -1, 10001} {
			refuses(a, minutes)
		}
	}
	for _, minutes := range []int{-1, -60, 10001, 20000, math.MinInt, math.MaxInt} {
		for _, unit := range allUnits {
			for _, value := range []int{0, 1, impl.MaxAmount} {
				refuses(amount(value, unit), minutes)
			}
		}
	}
}

func TestBarsOfWaterColumns(t *testing.T) {
	for meters, want := range map[int][2]int{
		0: {0, 1}, 1: {5, 51}, 2: {10, 51}, 3: {5, 17}, 10: {50, 51}, 17: {5, 3}, 34: {10, 3}, 50: {250, 51}, 51: {5, 1}, 52: {260, 51},
		102: {10, 1}, 510: {50, 1}, 867: {85, 1}, 969: {95, 1}, 999: {1665, 17}, 1000: {5000, 51},
	} {
		if num, den, ok := impl.BarsOf(meters); !ok || num != want[0] || den != want[1] {
			t.Errorf("BarsOf(%d) = %d, %d, %v, want %v", meters, num, den, ok, want)
		}
	}
	for meters := range 1001 {
		if num, den, ok := impl.BarsOf(meters); !ok || !isFraction(num, den, big.NewRat(int64(5*meters), 51)) {
			t.Fatalf("BarsOf(%d) = %d, %d, %v", meters, num, den, ok)
		}
	}
	for _, meters := range []int{-1, -51, 1001, 1020, 1 << 32, math.MinInt, math.MaxInt} {
		if num, den, ok := impl.BarsOf(meters); ok || num != 0 || den != 0 {
			t.Errorf("BarsOf(%d) = %d, %d, %v", meters, num, den, ok)
		}
	}
}

func TestKnownDecimals(t *testing.T) {
	for _, c := range []struct {
		num, den, places int
		want             string
	}{
		{10, 3, 2, "3.33"}, {10, 3, 0, "3"}, {10, 3, 1, "3.3"}, {10, 3, 3, "3.333"}, {10, 3, 4, "3.3333"}, {20, 3, 0, "7"}, {20, 3, 4, "6.6667"},
		{1, 2, 0, "1"}, {3, 2, 0, "2"}, {5, 2, 0, "3"}, {49, 100, 0, "0"}, {50, 100, 0, "1"}, {51, 100, 0, "1"},
		{1, 20, 1, "0.1"}, {3, 20, 1, "0.2"}, {5, 20, 1, "0.3"}, {1, 200, 2, "0.01"}, {1, 2000, 3, "0.001"}, {1, 20000, 4, "0.0001"}, {1, 20001, 4, "0.0000"}, {49999, 1000000, 1, "0.0"},
		{1995, 1000, 2, "2.00"}, {1994, 1000, 2, "1.99"}, {199, 2, 0, "100"}, {995, 1000, 2, "1.00"}, {994, 1000, 2, "0.99"}, {999995, 100000, 4, "10.0000"}, {999994, 100000, 4, "9.9999"},
		{5, 1, 0, "5"}, {5, 1, 1, "5.0"}, {5, 1, 4, "5.0000"}, {101, 100, 1, "1.0"}, {101, 100, 2, "1.01"}, {101, 100, 4, "1.0100"}, {7, 1000, 3, "0.007"}, {7, 1000, 4, "0.0070"}, {100, 1, 2, "100.00"},
		{0, 7, 0, "0"}, {0, 7, 1, "0.0"}, {0, 7, 3, "0.000"}, {0, 1, 4, "0.0000"}, {0, 1000000, 4, "0.0000"}, {6, 4, 0, "2"}, {6, 4, 2, "1.50"},
		{1000000000000, 1, 0, "1000000000000"}, {1000000000000, 1, 4, "1000000000000.0000"}, {1000000000000, 1000000, 4, "1000000.0000"}, {1000000000000, 999999, 4, "1000001.0000"},
		{999999999999, 1000000, 4, "1000000.0000"}, {999999999999, 1, 4, "999999999999.0000"}, {999999949999, 1000000, 4, "999999.9500"}, {999999999949, 1000000, 4, "999999.9999"}, {999999999950, 1000000, 4, "1000000.0000"},
		{1, 1000000, 0, "0"}, {1, 1000000, 4, "0.0000"}, {49, 1000000, 4, "0.0000"}, {50, 1000000, 4, "0.0001"}, {499999, 1000000, 0, "0"}, {500000, 1000000, 0, "1"}, {499999, 999999, 0, "0"}, {500000, 999999, 0, "1"},
	} {
		if s, ok := impl.DecimalText(c.num, c.den, c.places); !ok || s != c.want {
			t.Errorf("DecimalText(%d, %d, %d) = %q, %v, want %q", c.num, c.den, c.places, s, ok, c.want)
		}
	}
}

// checkDecimals compares the text of a fraction, in each number of places, with that of a
// big.Rat, which rounds a number that is not negative up in the middle too.
func checkDecimals(t *testing.T, num int, den int) {
	t.Helper()
	r := big.NewRat(int64(num), int64(den))
	for places := range 5 {
		if s, ok := impl.DecimalText(num, den, places); !ok || s != r.FloatString(places) {
			t.Fatalf("DecimalText(%d, %d, %d) = %q, %v, want %q", num, den, places, s, ok, r.FloatString(places))
		}
	}
}

func TestDecimalTextRoundsToTheNearest(t *testing.T) {
	for den := 1; den <= 100; den++ {
		for num := range 250 {
			checkDecimals(t, num, den)
		}
	}
	random := rand.New(rand.NewSource(3))
	for range 20000 {
		checkDecimals(t, random.Intn(1000000000001), 1+random.Intn(1000000))
		checkDecimals(t, random.Intn(2000000), 1+random.Intn(1000000))
	}
	for den := 1; den <= 1000000; den += 1 + den/50 {
		for _, num := range []int{0, 1, den / 2, (den + 1) / 2, den - 1, den, den + 1, 999999999999, 1000000000000} {
			checkDecimals(t, num, den)
		}
	}
}

func TestDecimalTextRoundsUpInTheMiddle(t *testing.T) {
	for _, den := range []int{2, 20, 200, 2000, 20000, 200000, 14, 60, 600, 6000, 60000, 999980} {
		for _, whole := range []int{0, 1, 9, 99, 123, 9999, 99999, 999999} {
			middle := den*whole + den/2
			for num := max(middle-3, 0); num <= middle+3; num++ {
				checkDecimals(t, num, den)
			}
			for places, last := 1, den/20; last >= 1; places, last = places+1, last/10 {
				for digit := range 10 {
					checkDecimals(t, den*whole+last*(2*digit+1), den)
				}
			}
		}
	}
}

func TestDecimalTextRefusesOtherArguments(t *testing.T) {
	for _, c := range [][3]int{
		{-1, 1, 0}, {-1, 3, 4}, {-10, 3, 2}, {1000000000001, 1, 0}, {1000000000001, 1000000, 4}, {math.MinInt, 1, 0}, {math.MaxInt, 1, 0}, {math.MaxInt, math.MaxInt, 2},
		{1, 0, 0}, {0, 0, 0}, {0, 0, 2}, {1, -1, 0}, {0, -1, 0}, {-1, -1, 0}, {-10, -3, 2}, {1, 1000001, 0}, {1000000000000, 1000001, 4}, {0, math.MinInt, 0}, {0, math.MaxInt, 0},
		{10, 3, -1}, {10, 3, 5}, {0, 1, 5}, {0, 1, -1}, {10, 3, 6}, {1, 2, math.MaxInt}, {1, 2, math.MinInt}, {1000000000000, 1, 5}, {0, 0, 5}, {-1, 0, -1},
	} {
		if s, ok := impl.DecimalText(c[0], c[1], c[2]); ok || s != "" {
			t.Errorf("DecimalText(%d, %d, %d) = %q, %v", c[0], c[1], c[2], s, ok)
		}
	}
}

func TestDecimalsOfBarsAndFlows(t *testing.T) {
	for meters, want := range map[int]string{0: "0.00", 10: "0.98", 51: "5.00", 102: "10.00", 1000: "98.04"} {
		num, den, ok := impl.BarsOf(meters)
		if s, fine := impl.DecimalText(num, den, 2); !ok || !fine || s != want {
			t.Errorf("%d meters are %q bars", meters, s)
		}
	}
	num, den, _ := impl.ConvertAmount(amount(1, 4), impl.UnitLiterSecond)
	if s, ok := impl.DecimalText(num, den, 4); !ok || s != "0.0116" {
		t.Error("a cubic meter in a day is", s, "liters per second")
	}
}
