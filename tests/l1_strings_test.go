package tests

import (
	"bytes"
	"math"
	"regexp"
	"slices"
	"strconv"
	"strings"
	"testing"
	"unsafe"

	"loop.example/g00853/impl"
)

// wordsOver returns all strings of at most most bytes over the bytes of alphabet.
func wordsOver(alphabet string, most int) []string {
	words := []string{""}
	for first, length := 0, 1; length <= most; length++ {
		next := len(words)
		for _, w := range words[first:] {
			for i := range len(alphabet) {
				words = append(words, w+alphabet[i:i+1])
			}
		}
		first = next
	}
	return words
}

// wantedSum computes a checksum by the document's rule, for strings of any length.
func wantedSum(s string) int {
	h := 7
	for _, c := range []byte(s) {
		h = (41*h + int(c) + 1) % 999979
	}
	return h
}

// sealedLike writes s, the mark and the sum of s, without any check of a limit.
func sealedLike(s string) string { return s + "#" + strconv.Itoa(wantedSum(s)) }

// textWithDigits returns a string of the given length without `#` whose checksum has this many
// digits.
func textWithDigits(t *testing.T, length int, digits int) string {
	t.Helper()
	// Four bytes are the fewest that reach every checksum: 256 * 41 * 41 is less than 999979.
	head := strings.Repeat("w", length-4)
	start := wantedSum(head)
	for k := range 1 << 32 {
		// Tails in a mixed order find a rare checksum sooner than ascending ones.
		tail := uint32(k) * 2654435761
		end := [4]byte{byte(tail >> 24), byte(tail >> 16), byte(tail >> 8), byte(tail)}
		h := start
		for _, c := range end {
			h = (41*h + int(c) + 1) % 999979
		}
		if len(strconv.Itoa(h)) == digits && !bytes.ContainsRune(end[:], '#') {
			return head + string(end[:])
		}
	}
	t.Fatal("no string of", length, "bytes has a checksum of", digits, "digits")
	return ""
}

// sharesBytes reports whether two strings with bytes overlap in memory.
func sharesBytes(a string, b string) bool {
	if a == "" || b == "" {
		return false
	}
	first := uintptr(unsafe.Pointer(unsafe.StringData(a)))
	second := uintptr(unsafe.Pointer(unsafe.StringData(b)))
	return first < second+uintptr(len(b)) && second < first+uintptr(len(a))
}

// everyByte returns a string of the 256 bytes in order.
func everyByte() string {
	all := make([]byte, 256)
	for i := range all {
		all[i] = byte(i)
	}
	return string(all)
}

func TestFormatIntWritesDecimals(t *testing.T) {
	for n, want := range map[int]string{
		0: "0", 1: "1", -1: "-1", 9: "9", 10: "10", -12: "-12", 100: "100", 120034: "120034",
		impl.MaxDecimal: "999999", -impl.MaxDecimal: "-999999",
	} {
		if s, ok := impl.FormatInt(n); !ok || s != want {
			t.Errorf("FormatInt(%d) = %q, %v, want %q", n, s, ok, want)
		}
	}
}

func TestFormatIntRefusesNumbersBeyondTheLimit(t *testing.T) {
	for _, n := range []int{
		impl.MaxDecimal + 1, -impl.MaxDecimal - 1, 1 << 32, math.MaxInt, math.MinInt, math.MinInt + 1,
	} {
		if s, ok := impl.FormatInt(n); ok || s != "" {
			t.Errorf("FormatInt(%d) = %q, %v", n, s, ok)
		}
	}
}

func TestDecimalsRoundTrip(t *testing.T) {
	for n := -impl.MaxDecimal; n <= impl.MaxDecimal; n++ {
		s, ok := impl.FormatInt(n)
		if !ok {
			t.Fatalf("FormatInt(%d) fails", n)
		}
		if m, ok := impl.ParseInt(s); !ok || m != n {
			t.Fatalf("ParseInt(%q) = %d, %v, want %d", s, m, ok, n)
		}
	}
}

func TestParseIntRefusesOtherStrings(t *testing.T) {
	for _, s := range []string{
		"", "-", "+", "-0", "+0", "00", "01", "-01", "000012", "+1", "--1", "-+1", "1-", "1x", "x",
		" 1", "1 ", "1\n", "1\x00", "\x001", "1_0", "1.0", "1e3", "0x1", "1,0", "\u0661", "\uff11", "\u22121",
		"1000000", "-1000000", "0999999", "0000001", "9223372036854775807", "-9223372036854775808",
		"9223372036854775808", "18446744073709551617", strings.Repeat("0", 5000) + "1", strings.Repeat("9", 5000),
	} {
		if n, ok := impl.ParseInt(s); ok || n != 0 {
			t.Errorf("ParseInt(%q) = %d, %v", s, n, ok)
		}
	}
}

func TestParseIntReadsExactlyTheDecimals(t *testing.T) {
	decimal := regexp.MustCompile(`^(0|-?[1-9][0-9]{0,5})\z`)
	for _, s := range wordsOver("-+0 19_x", 5) {
		n, ok := impl.ParseInt(s)
		if ok != decimal.MatchString(s) {
			t.Fatalf("ParseInt(%q) = %d, %v", s, n, ok)
		}
		if !ok {
			if n != 0 {
				t.Fatalf("ParseInt(%q) = %d beside false", s, n)
			}
			continue
		}
		if back, fine := impl.FormatInt(n); !fine || back != s {
			t.Fatalf("ParseInt(%q) = %d, which is written %q", s, n, back)
		}
	}
}

func TestSplitStringCutsAtEverySeparator(t *testing.T) {
	for _, c := range []struct {
		s, sep string
		want   []string
	}{
		{"a,,b", ",", []string{"a", "", "b"}},
		{"", ",", []string{""}},
		{",", ",", []string{"", ""}},
		{",,", ",", []string{"", "", ""}},
		{"abc", ",", []string{"abc"}},
		{",abc", ",", []string{"", "abc"}},
		{"abc,", ",", []string{"abc", ""}},
		{"ab cd e", " ", []string{"ab", "cd", "e"}},
		{"a\nb\n", "\n", []string{"a", "b", ""}},
		{"a\x00b", "\x00", []string{"a", "b"}},
		{"\u00e9", "\xa9", []string{"\xc3", ""}},
		{"a#b", "#", []string{"a", "b"}},
		{"aXa", "a", []string{"", "X", ""}},
		{"a.b", ",", []string{"a.b"}},
	} {
		if got, ok := impl.SplitString(c.s, c.sep); !ok || !slices.Equal(got, c.want) {
			t.Errorf("SplitString(%q, %q) = %q, %v, want %q", c.s, c.sep, got, ok, c.want)
		}
	}
}

func TestSplitStringRefusesOtherArguments(t *testing.T) {
	tooLong := strings.Repeat("a", impl.MaxString+1)
	for _, c := range [][2]string{
		{"a,b", ""}, {"a,,b", ",,"}, {"", ""}, {"", ",,"}, {"a,b", ",\x00"}, {"a\u00e9b", "\u00e9"}, {"a,b", "a,b"},
		{tooLong, ","}, {tooLong, "a"}, {strings.Repeat(",", impl.MaxString+1), ","}, {tooLong, ""},
	} {
		if got, ok := impl.SplitString(c[0], c[1]); ok || len(got) != 0 {
			t.Errorf("SplitString of %d bytes at %q = %d parts, %v", len(c[0]), c[1], len(got), ok)
		}
	}
}

func TestSplitStringMeetsTheLimit(t *testing.T) {
	full := strings.Repeat("a", impl.MaxString)
	if got, ok := impl.SplitString(full, ","); !ok || len(got) != 1 || got[0] != full {
		t.Error("a string of MaxString bytes without a separator", len(got), ok)
	}
	got, ok := impl.SplitString(strings.Repeat(",", impl.MaxString), ",")
	if !ok || len(got) != impl.MaxString+1 || strings.Join(got, "") != "" {
		t.Error("a string of MaxString separators", len(got), ok)
	}
}

func TestJoinStringsConcatenates(t *testing.T) {
	for _, c := range []struct {
		parts     []string
		sep, want string
	}{
		{[]string{"a", "", "b"}, ";", "a;;b"},
		{[]string{""}, ";", ""},
		{[]string{"", ""}, ";", ";"},
		{[]string{"abc"}, ";", "abc"},
		{[]string{"", "abc", ""}, ";", ";abc;"},
		{[]string{"a,b", "c"}, ";", "a,b;c"},
		{[]string{"a", "b"}, "\xff", "a\xffb"},
		{[]string{"a", "b"}, "\x00", "a\x00b"},
		{[]string{"A", "A"}, "a", "AaA"},
	} {
		if got, ok := impl.JoinStrings(c.parts, c.sep); !ok || got != c.want {
			t.Errorf("JoinStrings(%q, %q) = %q, %v, want %q", c.parts, c.sep, got, ok, c.want)
		}
	}
}

func TestJoinStringsRefusesOtherArguments(t *testing.T) {
	for _, c := range []struct {
		parts []string
		sep   string
	}{
		{nil, ";"}, {[]string{}, ";"}, {nil, ""}, {nil, ";;"},
		{[]string{"a", "b"}, ""}, {[]string{"a", "b"}, ";;"}, {[]string{"a", "b"}, "\u00e9"}, {[]string{"a"}, ""}, {[]string{"a"}, ";;"},
		{[]string{"a;b"}, ";"}, {[]string{";", "a"}, ";"}, {[]string{"a", ";"}, ";"}, {[]string{"a", "b;", "c"}, ";"},
		{[]string{"a", ";b", "c"}, ";"}, {[]string{"", "", ";"}, ";"}, {[]string{"\u00e9"}, "\xa9"},
	} {
		if got, ok := impl.JoinStrings(c.parts, c.sep); ok || got != "" {
			t.Errorf("JoinStrings(%q, %q) = %q, %v", c.parts, c.sep, got, ok)
		}
	}
}

func TestJoinStringsMeetsTheLimit(t *testing.T) {
	a := func(n int) string { return strings.Repeat("a", n) }
	for _, c := range []struct {
		parts []string
		ok    bool
	}{
		{[]string{a(impl.MaxString)}, true},
		{[]string{a(impl.MaxString + 1)}, false},
		{[]string{a(impl.MaxString - 1), ""}, true},
		{[]string{"", a(impl.MaxString - 1)}, true},
		{[]string{a(impl.MaxString), ""}, false},
		{[]string{"", a(impl.MaxString)}, false},
		{[]string{a(2000), a(1999)}, true},
		{[]string{a(2000), a(2000)}, false},
		{make([]string, impl.MaxString+1), true},
		{make([]string, impl.MaxString+2), false},
		{[]string{a(100000), a(100000)}, false},
	} {
		got, ok := impl.JoinStrings(c.parts, ";")
		want := strings.Join(c.parts, ";")
		if !c.ok {
			want = ""
		}
		if ok != c.ok || got != want {
			t.Errorf("JoinStrings of %d parts, the first of %d bytes: %d bytes, %v", len(c.parts), len(c.parts[0]), len(got), ok)
		}
	}
}

func TestSplittingRoundTrips(t *testing.T) {
	for _, s := range append(wordsOver("a,;\xff", 6), everyByte()) {
		for _, sep := range []string{",", ";", "a", "\xff", "\x00", "#"} {
			parts, ok := impl.SplitString(s, sep)
			if !ok || len(parts) != strings.Count(s, sep)+1 {
				t.Fatalf("SplitString(%q, %q) = %q, %v", s, sep, parts, ok)
			}
			if back, ok := impl.JoinStrings(parts, sep); !ok || back != s {
				t.Fatalf("JoinStrings(%q, %q) = %q, %v, want %q", parts, sep, back, ok, s)
			}
		}
	}
}

func TestJoiningRoundTrips(t *testing.T) {
	words := wordsOver("a,", 2)
	var lists [][]string
	for _, a := range words {
		lists = append(lists, []string{a})
		for _, b := range words {
			lists = append(lists, []string{a, b})
			for _, c := range words {
				lists = append(lists, []string{a, b, c})
			}
		}
	}
	for _, parts := range lists {
		clean := !strings.Contains(strings.Join(parts, ""), ",")
		s, ok := impl.JoinStrings(parts, ",")
		if ok != clean || !ok && s != "" {
			t.Fatalf("JoinStrings(%q) = %q, %v", parts, s, ok)
		}
		if back, fine := impl.SplitString(s, ","); ok && (!fine || !slices.Equal(back, parts)) {
			t.Fatalf("SplitString(%q) = %q, want %q", s, back, parts)
		}
	}
}

func TestSplitAndJoinLeaveMemoryAlone(t *testing.T) {
	s := strings.Clone("alpha,beta,,gamma")
	first, _ := impl.SplitString(s, ",")
	second, _ := impl.SplitString(s, ",")
	for i, part := range first {
		if sharesBytes(part, s) || sharesBytes(part, second[i]) {
			t.Errorf("part %q shares memory", part)
		}
	}
	for i := range first {
		first[i] = "changed"
	}
	_ = append(first, "more")
	if !slices.Equal(second, []string{"alpha", "beta", "", "gamma"}) || s != "alpha,beta,,gamma" {
		t.Error("two results share elements", second, s)
	}

	all := []string{"x", "y", "behind"}
	joined, ok := impl.JoinStrings(all[:2], ",")
	if !ok || joined != "x,y" || !slices.Equal(all, []string{"x", "y", "behind"}) {
		t.Error("joined", joined, all)
	}
	single := []string{strings.Clone("single")}
	if joined, _ := impl.JoinStrings(single, ","); joined != "single" || sharesBytes(joined, single[0]) {
		t.Error("a single part shares memory with the result")
	}
}

func TestLessStringComparesBytes(t *testing.T) {
	for _, c := range []struct {
		a, b string
		want bool
	}{
		{"a", "ab", true}, {"ab", "a", false}, {"", "a", true}, {"a", "", false}, {"", "", false}, {"a", "a", false},
		{"b", "ab", false}, {"ab", "b", true}, {"10", "9", true}, {"Z", "a", true}, {"", "\x00", true},
		{"\x7f", "\x80", true}, {"\xff", "\x00", false}, {"\uffff", "\U00010000", true}, {"a\x00", "a", false},
	} {
		if got := impl.LessString(c.a, c.b); got != c.want {
			t.Errorf("LessString(%q, %q) = %v", c.a, c.b, got)
		}
	}
	words := wordsOver("\x00a\x80\xff", 3)
	for _, a := range words {
		for _, b := range words {
			if got := impl.LessString(a, b); got != (bytes.Compare([]byte(a), []byte(b)) < 0) {
				t.Fatalf("LessString(%q, %q) = %v", a, b, got)
			}
		}
	}
	long := strings.Repeat("a", impl.MaxString+1)
	if !impl.LessString(long, long+"a") || impl.LessString(long, long) {
		t.Error("long strings")
	}
}

func TestChecksumFollowsTheRule(t *testing.T) {
	for s, want := range map[string]int{"": 7, "a": 385, "aa": 15883, "abc": 651344, "abcd": 705751, "\x00": 288, "\xff": 543} {
		if sum, ok := impl.Checksum(s); !ok || sum != want {
			t.Errorf("Checksum(%q) = %d, %v, want %d", s, sum, ok, want)
		}
	}
	for _, s := range []string{
		everyByte(), strings.Repeat("\xff", impl.MaxString), strings.Repeat("\x00", impl.MaxString), "a#385", "nodes 8\n", "\u00e9\u20ac",
	} {
		if sum, ok := impl.Checksum(s); !ok || sum != wantedSum(s) {
			t.Errorf("Checksum of %d bytes = %d, %v, want %d", len(s), sum, ok, wantedSum(s))
		}
	}
	if sum, ok := impl.Checksum(strings.Repeat("a", impl.MaxString+1)); ok || sum != 0 {
		t.Error("a string that is too long", sum, ok)
	}
}

func TestChecksumsRoundTrip(t *testing.T) {
	for _, s := range append(wordsOver("a1\x00\xff", 5), strings.ReplaceAll(everyByte(), "#", "")) {
		sealed, ok := impl.AppendChecksum(s)
		if !ok || sealed != sealedLike(s) {
			t.Fatalf("AppendChecksum(%q) = %q, %v", s, sealed, ok)
		}
		if back, ok := impl.VerifyChecksum(sealed); !ok || back != s {
			t.Fatalf("VerifyChecksum(%q) = %q, %v, want %q", sealed, back, ok, s)
		}
	}
	if sealed, ok := impl.AppendChecksum(""); !ok || sealed != "#7" {
		t.Error("the empty string", sealed, ok)
	}
}

func TestAppendChecksumRefusesTheMark(t *testing.T) {
	for _, s := range []string{"#", "a#", "#a", "a#b", "##", "a#385", "#7"} {
		if sealed, ok := impl.AppendChecksum(s); ok || sealed != "" {
			t.Errorf("AppendChecksum(%q) = %q, %v", s, sealed, ok)
		}
	}
}

func TestChecksumsMeetTheLimit(t *testing.T) {
	for digits := 1; digits <= 6; digits++ {
		fits := textWithDigits(t, impl.MaxString-1-digits, digits)
		sealed, ok := impl.AppendChecksum(fits)
		if !ok || len(sealed) != impl.MaxString || sealed != sealedLike(fits) {
			t.Error("a result of MaxString bytes", digits, len(sealed), ok)
		}
		if back, ok := impl.VerifyChecksum(sealedLike(fits)); !ok || back != fits {
			t.Error("opening MaxString bytes", digits, len(back), ok)
		}
		exceeds := textWithDigits(t, impl.MaxString-digits, digits)
		if sealed, ok := impl.AppendChecksum(exceeds); ok || sealed != "" {
			t.Error("a result of MaxString+1 bytes", digits, len(sealed), ok)
		}
		if back, ok := impl.VerifyChecksum(sealedLike(exceeds)); ok || back != "" {
			t.Error("opening MaxString+1 bytes", digits, len(back), ok)
		}
	}
	for _, length := range []int{impl.MaxString - 1, impl.MaxString, impl.MaxString + 1, 3 * impl.MaxString} {
		s := strings.Repeat("a", length)
		if sealed, ok := impl.AppendChecksum(s); ok || sealed != "" {
			t.Error("a string that is too long", length, len(sealed), ok)
		}
		if back, ok := impl.VerifyChecksum(sealedLike(s)); ok || back != "" {
			t.Error("opening a string that is too long", length, len(back), ok)
		}
	}
}

func TestVerifyChecksumRefusesOtherStrings(t *testing.T) {
	for _, s := range []string{
		"", "#", "a", "7", "a#", "#a", "a#384", "a#386", "a#0385", "a#+385", "a#-385", "a# 385", "a#385 ", "a#385\n", "a #385",
		"b#385", "A#385", "a##385", "a#385#", "#a#385", "a#385#385", "a#38", "a#3855", "a385", "#07", "#-7", "#8", "#0", "#7#7",
		"a#1000364", "a#999979", "a#-999594", sealedLike("a#385"), sealedLike("#"), sealedLike("x#y"),
	} {
		if back, ok := impl.VerifyChecksum(s); ok || back != "" {
			t.Errorf("VerifyChecksum(%q) = %q, %v", s, back, ok)
		}
	}
}

func TestAnyChangedByteIsDetected(t *testing.T) {
	for _, s := range []string{
		"", "a", "7", "\x00", "\xff", "shut 3@ok", "nodes 2\n7: 1-2 size 3\n", "\"\"\"$$$", strings.Repeat("\x00", 60), strings.Repeat("\xff", 60),
		strings.ReplaceAll(everyByte(), "#", ""), textWithDigits(t, 50, 1), textWithDigits(t, 50, 2), textWithDigits(t, 50, 6),
	} {
		sealed := sealedLike(s)
		for i := range len(sealed) {
			changed := []byte(sealed)
			for change := 1; change < 256; change++ {
				changed[i] = sealed[i] + byte(change)
				if back, ok := impl.VerifyChecksum(string(changed)); ok || back != "" {
					t.Fatalf("VerifyChecksum(%q) = %q, %v: byte %d of %q is changed", changed, back, ok, i, sealed)
				}
			}
		}
	}
}

func TestAnyChangedByteOfALongStringIsDetected(t *testing.T) {
	sealed := sealedLike(textWithDigits(t, impl.MaxString-7, 6))
	if len(sealed) != impl.MaxString {
		t.Fatal("length", len(sealed))
	}
	for i := range len(sealed) {
		for _, mask := range []byte{1, 0x80, 0xff, sealed[i] ^ '#'} {
			if mask == 0 {
				continue
			}
			changed := []byte(sealed)
			changed[i] ^= mask
			if back, ok := impl.VerifyChecksum(string(changed)); ok || back != "" {
				t.Fatalf("byte %d changed by %#x is not detected", i, mask)
			}
		}
	}
}

func TestChecksumResultsShareNoMemory(t *testing.T) {
	s := strings.Clone("water")
	sealed, _ := impl.AppendChecksum(s)
	opened, _ := impl.VerifyChecksum(sealed)
	if opened != s || sharesBytes(s, sealed) || sharesBytes(sealed, opened) {
		t.Error("a sealed or opened string shares memory with the argument")
	}
}
