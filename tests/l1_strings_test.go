package tests

import (
	"math"
	"slices"
	"strings"
	"testing"

	"loop.example/g01031/impl"
)

// everyByte holds each value of a byte once.
func everyByte() string {
	all := make([]byte, 256)
	for i := range all {
		all[i] = byte(i)
	}
	return string(all)
}

// allBytesBut holds each value of a byte once, except one.
func allBytesBut(b byte) string {
	return strings.ReplaceAll(everyByte(), string([]byte{b}), "")
}

// slowChecksum follows the document's rule without the program.
func slowChecksum(s string) int { return checksumFrom(7, s) }

// checksumFrom goes on with a checksum.
func checksumFrom(h int, s string) int {
	for _, c := range []byte(s) {
		h = (41*h + int(c) + 1) % 999979
	}
	return h
}

// textWithSum finds a text of size bytes, four or more, without "#" whose checksum fits.
func textWithSum(t *testing.T, size int, fits func(int) bool) string {
	t.Helper()
	start := strings.Repeat("x", size-4)
	state := slowChecksum(start)
	// The last four bytes take values from 'A' on; 61 of them are more than the factor 41 leaves gaps.
	for k := range 61 * 61 * 61 * 61 {
		end := []byte{byte('A' + k/61/61/61), byte('A' + k/61/61%61), byte('A' + k/61%61), byte('A' + k%61)}
		if fits(checksumFrom(state, string(end))) {
			return start + string(end)
		}
	}
	t.Fatal("no text with such a checksum", size)
	return ""
}

func TestP1FormatIntWritesDecimals(t *testing.T) {
	for n, want := range map[int]string{
		0: "0", 1: "1", -1: "-1", 9: "9", 10: "10", -12: "-12", 100: "100", -100: "-100",
		4096: "4096", 99999: "99999", 100000: "100000",
		impl.MaxDecimal: "999999", -impl.MaxDecimal: "-999999",
	} {
		if s, ok := impl.FormatInt(n); !ok || s != want {
			t.Errorf("FormatInt(%d) = %q, %v", n, s, ok)
		}
	}
}

func TestP1FormatIntRefusesNumbersBeyondTheLimit(t *testing.T) {
	for _, n := range []int{
		impl.MaxDecimal + 1, -impl.MaxDecimal - 1, 1 << 32, -1 << 32, math.MaxInt, math.MinInt,
	} {
		if s, ok := impl.FormatInt(n); ok || s != "" {
			t.Errorf("FormatInt(%d) = %q, %v", n, s, ok)
		}
	}
}

func TestP1EveryNumberRoundTrips(t *testing.T) {
	for n := -impl.MaxDecimal; n <= impl.MaxDecimal; n++ {
		s, ok := impl.FormatInt(n)
		m, fine := impl.ParseInt(s)
		if !ok || !fine || m != n {
			t.Fatalf("%d was written as %q and read as %d", n, s, m)
		}
	}
}

func TestP1ParseIntReadsDecimals(t *testing.T) {
	for s, want := range map[string]int{
		"0": 0, "7": 7, "-7": -7, "10": 10, "-12": -12, "999999": 999999, "-999999": -999999,
	} {
		if n, ok := impl.ParseInt(s); !ok || n != want {
			t.Errorf("ParseInt(%q) = %d, %v", s, n, ok)
		}
	}
}

func TestP1ParseIntRefusesOtherStrings(t *testing.T) {
	for _, s := range []string{
		"", "-", "+", "--1", "+-1", "-+1", "1-", "+1", "+0", "-0", "00", "-00", "01", "-01",
		"000001", "0999999", "1000000", "-1000000", "1000001", "9999999",
		"9223372036854775807", "-9223372036854775808", "9223372036854775808",
		"18446744073709551617", strings.Repeat("1", impl.MaxString+1), strings.Repeat("0", 100),
		" 1", "1 ", "\t1", "1\n", "1\x00", "\x001", "1_000", "0x1", "0b1", "1e3", "1.0", "1,0",
		"a", "1a", "a1", "NaN", "\u0661", "\uff11", "\u22121", "\xb1", "\xff",
	} {
		if n, ok := impl.ParseInt(s); ok || n != 0 {
			t.Errorf("ParseInt(%q) = %d, %v", s, n, ok)
		}
	}
}

func TestP1ParseIntOnAllShortStrings(t *testing.T) {
	written := map[string]int{}
	for n := -9; n <= 99; n++ {
		s, _ := impl.FormatInt(n)
		written[s] = n
	}
	check := func(s string) {
		want, wanted := written[s]
		if n, ok := impl.ParseInt(s); ok != wanted || n != want {
			t.Errorf("ParseInt(%q) = %d, %v", s, n, ok)
		}
	}
	for a := range 256 {
		check(string([]byte{byte(a)}))
		for b := range 256 {
			check(string([]byte{byte(a), byte(b)}))
		}
	}
}

func TestP1SplitStringSplits(t *testing.T) {
	for _, c := range []struct {
		s, sep string
		want   []string
	}{
		{"a,,b", ",", []string{"a", "", "b"}},
		{"", ",", []string{""}},
		{",", ",", []string{"", ""}},
		{",,", ",", []string{"", "", ""}},
		{"a", ",", []string{"a"}},
		{",a", ",", []string{"", "a"}},
		{"a,", ",", []string{"a", ""}},
		{"ab;c,d", ",", []string{"ab;c", "d"}},
		{"a b\nc", "\n", []string{"a b", "c"}},
		{"a\x00b", "\x00", []string{"a", "b"}},
		{"\u00e9", "\xa9", []string{"\xc3", ""}},
		{"\xff\xfe\xff", "\xff", []string{"", "\xfe", ""}},
		{"\xfe\xfd", "\xff", []string{"\xfe\xfd"}},
	} {
		if got, ok := impl.SplitString(c.s, c.sep); !ok || !slices.Equal(got, c.want) {
			t.Errorf("SplitString(%q, %q) = %q, %v", c.s, c.sep, got, ok)
		}
	}
}

func TestP1SplitStringAtEveryByte(t *testing.T) {
	all := everyByte()
	for i := range 256 {
		got, ok := impl.SplitString(all, all[i:i+1])
		if !ok || !slices.Equal(got, []string{all[:i], all[i+1:]}) {
			t.Errorf("at byte %d: %q, %v", i, got, ok)
		}
	}
}

func TestP1SplitStringLimits(t *testing.T) {
	full := strings.Repeat("a", impl.MaxString)
	if got, ok := impl.SplitString(full, ","); !ok || len(got) != 1 || got[0] != full {
		t.Error("a string of the greatest length is not split", ok)
	}
	commas := strings.Repeat(",", impl.MaxString)
	got, ok := impl.SplitString(commas, ",")
	if !ok || len(got) != impl.MaxString+1 || strings.Join(got, "") != "" {
		t.Error("separators only", len(got), ok)
	}
	for _, s := range []string{full + "a", commas + ",", full + ","} {
		if got, ok := impl.SplitString(s, ","); ok || len(got) != 0 {
			t.Error("a string that is too long by one is split", len(got), ok)
		}
	}
}

func TestP1SplitStringRefusesSeparators(t *testing.T) {
	for _, sep := range []string{"", ",,", ",;", "\u00e9", "\u20ac", strings.Repeat(",", 5000)} {
		for _, s := range []string{"", "a,,b", "\u00e9", "\u20ac"} {
			if got, ok := impl.SplitString(s, sep); ok || len(got) != 0 {
				t.Errorf("SplitString(%q, %q) = %q, %v", s, sep, got, ok)
			}
		}
	}
}

func TestP1JoinStringsJoins(t *testing.T) {
	for _, c := range []struct {
		parts []string
		sep   string
		want  string
	}{
		{[]string{"a", "", "b"}, ";", "a;;b"},
		{[]string{""}, ";", ""},
		{[]string{"", ""}, ";", ";"},
		{[]string{"a"}, ";", "a"},
		{[]string{"", "a"}, ";", ";a"},
		{[]string{"a", ""}, ";", "a;"},
		{[]string{"a,b", "c"}, ";", "a,b;c"},
		{[]string{"a", "b"}, "\x00", "a\x00b"},
		{[]string{"\xc3", ""}, "\xa9", "\u00e9"},
		{[]string{"a", "b"}, "\xff", "a\xffb"},
	} {
		if got, ok := impl.JoinStrings(c.parts, c.sep); !ok || got != c.want {
			t.Errorf("JoinStrings(%q, %q) = %q, %v", c.parts, c.sep, got, ok)
		}
	}
}

func TestP1JoinStringsRefuses(t *testing.T) {
	for _, c := range []struct {
		parts []string
		sep   string
	}{
		{nil, ","}, {[]string{}, ","}, {nil, ""},
		{[]string{"a", "b"}, ""}, {[]string{"a"}, ""}, {[]string{"a", "b"}, ",,"},
		{[]string{"a", "b"}, "\u00e9"}, {[]string{"a"}, ",;"},
		{[]string{","}, ","}, {[]string{"a,b"}, ","},
		{[]string{",a", "b", "c"}, ","}, {[]string{"a", "b,", "c"}, ","},
		{[]string{"a", "b", "c,"}, ","}, {[]string{"", "", ","}, ","},
		{[]string{"\u00e9", "a"}, "\xa9"}, {[]string{"a", "b\x00"}, "\x00"},
		{[]string{"a", "b\xff"}, "\xff"},
	} {
		if got, ok := impl.JoinStrings(c.parts, c.sep); ok || got != "" {
			t.Errorf("JoinStrings(%q, %q) = %q, %v", c.parts, c.sep, got, ok)
		}
	}
}

func TestP1JoinStringsWithEverySeparatorByte(t *testing.T) {
	for i := range 256 {
		sep := string([]byte{byte(i)})
		others := allBytesBut(byte(i))
		if got, ok := impl.JoinStrings([]string{others, others}, sep); !ok || got != others+sep+others {
			t.Errorf("not joined at byte %d", i)
		}
		if got, ok := impl.JoinStrings([]string{"", everyByte()}, sep); ok || got != "" {
			t.Errorf("joined with byte %d within", i)
		}
	}
}

func TestP1JoinStringsLimits(t *testing.T) {
	full := strings.Repeat("a", impl.MaxString)
	half := strings.Repeat("a", impl.MaxString/2)
	for _, parts := range [][]string{
		{full}, {full[1:], ""}, {"", full[1:]}, {half, half[1:]}, make([]string, impl.MaxString+1),
	} {
		got, ok := impl.JoinStrings(parts, ",")
		if !ok || len(got) != impl.MaxString || got != strings.Join(parts, ",") {
			t.Error("a result of the greatest length", len(parts), len(got), ok)
		}
	}
	for _, parts := range [][]string{
		{full + "a"}, {full, ""}, {"", full}, {half, half}, make([]string, impl.MaxString+2),
		{full, full, full}, {strings.Repeat("a", 100000)},
	} {
		if got, ok := impl.JoinStrings(parts, ","); ok || got != "" {
			t.Error("a result that is too long", len(parts), len(got), ok)
		}
	}
}

func TestP1SplittingRoundTrips(t *testing.T) {
	// All strings of up to five signs of an alphabet with the separator.
	texts := []string{""}
	for start, size := 0, 1; size <= 5; size++ {
		end := len(texts)
		for _, s := range texts[start:end] {
			for _, sign := range []string{",", "a", "\xff"} {
				texts = append(texts, s+sign)
			}
		}
		start = end
	}
	texts = append(texts, everyByte(), strings.Repeat(",a", impl.MaxString/2))
	for _, s := range texts {
		parts, ok := impl.SplitString(s, ",")
		if !ok || len(parts) != strings.Count(s, ",")+1 {
			t.Errorf("%q is split to %q, %v", s, parts, ok)
		}
		if back, ok := impl.JoinStrings(parts, ","); !ok || back != s {
			t.Errorf("%q comes back as %q, %v", s, back, ok)
		}
	}
	for _, parts := range [][]string{{""}, {"", ""}, {"a", "", "b"}, {"a;b", "c"}, {allBytesBut(',')}} {
		s, ok := impl.JoinStrings(parts, ",")
		if back, fine := impl.SplitString(s, ","); !ok || !fine || !slices.Equal(back, parts) {
			t.Errorf("%q comes back as %q", parts, back)
		}
	}
}

func TestP1LessStringComparesBytes(t *testing.T) {
	ascending := []string{
		"", "\x00", "\x00\x00", "\x00\xff", "\x01", "-1", "0", "00", "10", "9", "A", "Z", "a", "aa", "ab",
		"abc", "b", "z", "\x7f", "\x80", "\u00e9", "\u20ac", "\U0001f600", "\xff", "\xff\x00", "\xff\xff",
	}
	for i, a := range ascending {
		for j, b := range ascending {
			if impl.LessString(a, b) != (i < j) {
				t.Errorf("LessString(%q, %q) = %v", a, b, i >= j)
			}
		}
	}
}

func TestP1LessStringOnAllBytes(t *testing.T) {
	for a := range 256 {
		for b := range 256 {
			x, y := "s"+string([]byte{byte(a)}), "s"+string([]byte{byte(b)})
			if impl.LessString(x, y) != (a < b) || impl.LessString(x+"z", y+"a") != (a < b) {
				t.Errorf("bytes %d and %d", a, b)
			}
		}
	}
	long := strings.Repeat("a", 3*impl.MaxString)
	if !impl.LessString(long, long+"a") || impl.LessString(long+"a", long) || impl.LessString(long, long) {
		t.Error("long strings")
	}
}

func TestP1ChecksumValues(t *testing.T) {
	for s, want := range map[string]int{
		"": 7, "a": 385, "\x00": 288, "\xff": 543, "#": 323, "ab": 15884, "abc": 651344, "abcd": 705751,
	} {
		if n, ok := impl.Checksum(s); !ok || n != want {
			t.Errorf("Checksum(%q) = %d, %v", s, n, ok)
		}
	}
	for i := range 256 {
		if n, ok := impl.Checksum(string([]byte{byte(i)})); !ok || n != 288+i {
			t.Errorf("byte %d has the checksum %d, %v", i, n, ok)
		}
	}
	for _, s := range []string{everyByte(), "\u00e9\u20ac", strings.Repeat("\xff", 1000)} {
		if n, ok := impl.Checksum(s); !ok || n != slowChecksum(s) {
			t.Errorf("Checksum(%q) = %d, %v", s, n, ok)
		}
	}
}

func TestP1ChecksumLimits(t *testing.T) {
	full := strings.Repeat("\xfe", impl.MaxString)
	if n, ok := impl.Checksum(full); !ok || n != slowChecksum(full) {
		t.Error("a string of the greatest length", n, ok)
	}
	for _, s := range []string{full + "a", full + full} {
		if n, ok := impl.Checksum(s); ok || n != 0 {
			t.Error("a string that is too long", n, ok)
		}
	}
}

func TestP1AppendChecksumAppends(t *testing.T) {
	for s, want := range map[string]string{
		"": "#7", "a": "a#385", "ab": "ab#15884", "\x00": "\x00#288", "\xff": "\xff#543",
		"385": "385#" + decimal(t, slowChecksum("385")),
	} {
		if got, ok := impl.AppendChecksum(s); !ok || got != want {
			t.Errorf("AppendChecksum(%q) = %q, %v", s, got, ok)
		}
	}
	for _, s := range []string{"#", "a#", "#a", "a#b", "a#385", "##", allBytesBut('a')} {
		if got, ok := impl.AppendChecksum(s); ok || got != "" {
			t.Errorf("AppendChecksum(%q) = %q, %v", s, got, ok)
		}
	}
}

// decimal is the decimal representation of a checksum.
func decimal(t *testing.T, n int) string {
	t.Helper()
	s, ok := impl.FormatInt(n)
	if !ok {
		t.Fatal("no decimal", n)
	}
	return s
}

func TestP1ChecksummedStringsRoundTrip(t *testing.T) {
	for _, s := range []string{
		"", "a", "ab", "0", "-0", "+1", ",", "\x00", "\xff", "a b\nc", "\u00e9", allBytesBut('#'),
		strings.Repeat("long ", 700),
		textWithSum(t, 4, func(n int) bool { return n < 100 }),
		textWithSum(t, 5, func(n int) bool { return n == 999978 }),
	} {
		sealed, ok := impl.AppendChecksum(s)
		if !ok || sealed != s+"#"+decimal(t, slowChecksum(s)) {
			t.Errorf("AppendChecksum(%q) = %q, %v", s, sealed, ok)
		}
		if back, ok := impl.VerifyChecksum(sealed); !ok || back != s {
			t.Errorf("VerifyChecksum(%q) = %q, %v", sealed, back, ok)
		}
	}
}

func TestP1ChecksumZeroIsWritten(t *testing.T) {
	s := textWithSum(t, 4, func(n int) bool { return n == 0 })
	if got, ok := impl.AppendChecksum(s); !ok || got != s+"#0" {
		t.Errorf("AppendChecksum(%q) = %q, %v", s, got, ok)
	}
	if back, ok := impl.VerifyChecksum(s + "#0"); !ok || back != s {
		t.Errorf("VerifyChecksum(%q) = %q, %v", s+"#0", back, ok)
	}
	for _, wrong := range []string{s, s + "#", s + "#-0", s + "#00", s + "#999979"} {
		if back, ok := impl.VerifyChecksum(wrong); ok || back != "" {
			t.Errorf("VerifyChecksum(%q) = %q, %v", wrong, back, ok)
		}
	}
}

func TestP1AppendChecksumLimits(t *testing.T) {
	sixDigits := func(n int) bool { return n >= 100000 }
	fiveDigits := func(n int) bool { return n >= 10000 && n < 100000 }
	for _, s := range []string{
		textWithSum(t, impl.MaxString-7, sixDigits), textWithSum(t, impl.MaxString-6, fiveDigits),
	} {
		sealed, ok := impl.AppendChecksum(s)
		if !ok || len(sealed) != impl.MaxString {
			t.Error("a result of the greatest length", len(sealed), ok)
		}
		if back, ok := impl.VerifyChecksum(sealed); !ok || back != s {
			t.Error("not opened at the greatest length", ok)
		}
	}
	for _, s := range []string{
		textWithSum(t, impl.MaxString-6, sixDigits), textWithSum(t, impl.MaxString-5, fiveDigits),
		strings.Repeat("a", impl.MaxString), strings.Repeat("a", impl.MaxString+1),
	} {
		if got, ok := impl.AppendChecksum(s); ok || got != "" {
			t.Error("a result that is too long", len(got), ok)
		}
		if back, ok := impl.VerifyChecksum(s + "#" + decimal(t, slowChecksum(s))); ok || back != "" {
			t.Error("opened though too long", len(s), ok)
		}
	}
}

func TestP1VerifyChecksumRefuses(t *testing.T) {
	for _, s := range []string{
		"", "a", "#", "##", "a#", "#a", "#0", "#07", "#+7", "#-7", "#7#", "##7", "#7 ", " #7",
		"a#384", "a#386", "a#0385", "a#+385", "a#-385", "a# 385", "a#385 ", "a#385\n", "a#3850", "a#38",
		"b#385", "A#385", "aa#385", "a##385", "a#385#", "a#385#1", "a#385#385", "#a#385", "a385", "385",
		"a#385\x00", "a#\uff13\uff18\uff15", "a#1000364",
	} {
		if back, ok := impl.VerifyChecksum(s); ok || back != "" {
			t.Errorf("VerifyChecksum(%q) = %q, %v", s, back, ok)
		}
	}
	// Sealing what is sealed would give two marks, which no sealed string has.
	twice := "a#385#" + decimal(t, slowChecksum("a#385"))
	if back, ok := impl.VerifyChecksum(twice); ok || back != "" {
		t.Errorf("VerifyChecksum(%q) = %q, %v", twice, back, ok)
	}
}

func TestP1EverySingleChangedByteIsDetected(t *testing.T) {
	for _, s := range []string{
		"", "a", "0", "\x00", "\xff", "12,34,56", "line 7\n", allBytesBut('#'), strings.Repeat("\xff", 40),
		textWithSum(t, 4, func(n int) bool { return n < 100 }),
	} {
		sealed, ok := impl.AppendChecksum(s)
		if !ok {
			t.Fatalf("not sealed: %q", s)
		}
		changed := []byte(sealed)
		for i := range changed {
			for b := range 256 {
				changed[i] = byte(b)
				back, ok := impl.VerifyChecksum(string(changed))
				if same := sealed[i] == byte(b); ok != same || !ok && back != "" {
					t.Fatalf("%q with byte %d at %d: %q, %v", sealed, b, i, back, ok)
				}
			}
			changed[i] = sealed[i]
		}
	}
}

func TestP1ChangedBytesOfALongStringAreDetected(t *testing.T) {
	sealed, ok := impl.AppendChecksum(textWithSum(t, impl.MaxString-7, func(n int) bool { return n >= 100000 }))
	if !ok {
		t.Fatal("not sealed")
	}
	changed := []byte(sealed)
	for i := range changed {
		for _, b := range []byte{sealed[i] ^ 1, sealed[i] ^ 128, '#'} {
			changed[i] = b
			if _, ok := impl.VerifyChecksum(string(changed)); ok && b != sealed[i] {
				t.Fatalf("byte %d at %d is not detected", b, i)
			}
		}
		changed[i] = sealed[i]
	}
}

func TestP29StringFunctionsReturnForAllArguments(t *testing.T) {
	texts := []string{
		"", "#", ",", "-", "a", "a#385", "\x00", "\xff", everyByte(), strings.Repeat("#", impl.MaxString),
		strings.Repeat("9", impl.MaxString), strings.Repeat("a", impl.MaxString+1), strings.Repeat(",", 1<<20),
	}
	empty := func(name string, got string, ok bool) {
		if !ok && got != "" {
			t.Errorf("%s fails with %q", name, got)
		}
	}
	for _, n := range []int{math.MinInt, -1, 0, 1, math.MaxInt} {
		got, ok := impl.FormatInt(n)
		empty("FormatInt", got, ok)
	}
	for _, a := range texts {
		n, ok := impl.ParseInt(a)
		sum, fine := impl.Checksum(a)
		if !ok && n != 0 || !fine && sum != 0 {
			t.Error("ParseInt or Checksum fails with", n, sum)
		}
		got, ok := impl.AppendChecksum(a)
		empty("AppendChecksum", got, ok)
		got, ok = impl.VerifyChecksum(a)
		empty("VerifyChecksum", got, ok)
		for _, b := range texts {
			impl.LessString(a, b)
			if parts, ok := impl.SplitString(a, b); !ok && len(parts) != 0 {
				t.Error("SplitString fails with", len(parts))
			}
			got, ok = impl.JoinStrings([]string{a, b}, a)
			empty("JoinStrings", got, ok)
			got, ok = impl.JoinStrings([]string{a, b}, b)
			empty("JoinStrings", got, ok)
		}
	}
	got, ok := impl.JoinStrings(make([]string, 1<<20), ",")
	empty("JoinStrings", got, ok)
}

func TestP29JoinStringsLeavesItsArgument(t *testing.T) {
	// What lies behind the length of the list is neither read nor written.
	whole := []string{"a", "b", "c,d", strings.Repeat("e", impl.MaxString)}
	before := slices.Clone(whole)
	if got, ok := impl.JoinStrings(whole[:2], ","); !ok || got != "a,b" {
		t.Errorf("JoinStrings = %q, %v", got, ok)
	}
	impl.JoinStrings(whole, ",")
	impl.JoinStrings(whole[:2], "a")
	impl.JoinStrings(whole[:3], ";")
	if !slices.Equal(whole, before) {
		t.Errorf("the list is now %q", whole)
	}
}

func TestP29SplitStringSharesNothing(t *testing.T) {
	first, _ := impl.SplitString("a,b,c", ",")
	second, _ := impl.SplitString("a,b,c", ",")
	first[0], first[1] = "x", "y"
	_ = append(first, "z")
	third, _ := impl.SplitString("a,b,c", ",")
	want := []string{"a", "b", "c"}
	if !slices.Equal(second, want) || !slices.Equal(third, want) {
		t.Errorf("split to %q and %q", second, third)
	}
}
