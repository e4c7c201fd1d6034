package tests

import (
	"math"
	"slices"
	"strconv"
	"strings"
	"testing"

	"loop.example/g00967/impl"
)

// everyByte returns the 256 bytes in ascending order.
func everyByte() string {
	all := make([]byte, 256)
	for i := range all {
		all[i] = byte(i)
	}
	return string(all)
}

// wantHex checks that Hex and Unhex lead from plain to digits and back.
func wantHex(t *testing.T, plain string, digits string) {
	t.Helper()
	if got, ok := impl.Hex(plain); !ok || got != digits {
		t.Errorf("Hex(%.40q) = %.80q, %v; want %.80q", plain, got, ok, digits)
	}
	if got, ok := impl.Unhex(digits); !ok || got != plain {
		t.Errorf("Unhex(%.80q) = %.40q, %v; want %.40q", digits, got, ok, plain)
	}
}

func TestWordLimits(t *testing.T) {
	if impl.MaxText != 20000 || impl.MaxNumber != 1000000000 || impl.MaxWords != 600 || impl.MaxParts != 12 {
		t.Error("the limits differ from the specification")
	}
}

func TestHexAndUnhexOfKnownTexts(t *testing.T) {
	wantHex(t, "", "")
	wantHex(t, "a", "61")
	wantHex(t, "az", "617a")
	wantHex(t, "\x00", "00")
	wantHex(t, "\x0f\xf0", "0ff0")
	wantHex(t, "\x01\x23\x45\x67\x89\xab\xcd\xef", "0123456789abcdef")
	wantHex(t, "\xff\x80\x7f\n ", "ff807f0a20")
	wantHex(t, "é", "c3a9")
}

func TestHexAndUnhexOfEveryByte(t *testing.T) {
	const digits = "0123456789abcdef"
	all := everyByte()
	want := ""
	for i := range len(all) {
		pair := string(digits[i/16]) + string(digits[i%16])
		wantHex(t, all[i:i+1], pair)
		want += pair
	}
	wantHex(t, all, want)
}

func TestHexLimit(t *testing.T) {
	wantHex(t, strings.Repeat("k", impl.MaxText-1), strings.Repeat("6b", impl.MaxText-1))
	wantHex(t, strings.Repeat("k", impl.MaxText), strings.Repeat("6b", impl.MaxText))
	for _, size := range []int{impl.MaxText + 1, impl.MaxText + 2, 3 * impl.MaxText} {
		if got, ok := impl.Hex(strings.Repeat("k", size)); ok || got != "" {
			t.Errorf("Hex of %d bytes = %.20q, %v; want a rejection", size, got, ok)
		}
	}
}

func TestUnhexLimit(t *testing.T) {
	for _, size := range []int{2*impl.MaxText + 1, 2*impl.MaxText + 2, 6 * impl.MaxText} {
		if got, ok := impl.Unhex(strings.Repeat("6", size)); ok || got != "" {
			t.Errorf("Unhex of %d digits = %.20q, %v; want a rejection", size, got, ok)
		}
	}
}

func TestUnhexRejects(t *testing.T) {
	texts := []string{
		"6", "617", "61626", // odd length
		"6A", "A6", "FF", "61fF", // capital letters
		"6g", "g6", "0x", "-1", "+1", "6 ", " 6", "61 62z", // other bytes
		"6\x00", "\x006", "6\xe1", "\xe16", "6:", "6/", "6`", "\n\n", "é",
	}
	for _, text := range texts {
		if got, ok := impl.Unhex(text); ok || got != "" {
			t.Errorf("Unhex(%q) = %q, %v; want a rejection", text, got, ok)
		}
	}
}

// Each pair of bytes is accepted by Unhex exactly if Hex leads back to it.
func TestUnhexOfEveryPair(t *testing.T) {
	accepted := 0
	for high := range 256 {
		for low := range 256 {
			pair := string([]byte{byte(high), byte(low)})
			plain, ok := impl.Unhex(pair)
			if !ok {
				if plain != "" {
					t.Fatalf("Unhex(%q) = %q, false", pair, plain)
				}
				continue
			}
			accepted++
			if back, _ := impl.Hex(plain); back != pair {
				t.Fatalf("Unhex(%q) = %q, whose Hex is %q", pair, plain, back)
			}
		}
	}
	if accepted != 256 {
		t.Errorf("Unhex accepts %d pairs, want 256", accepted)
	}
}

func TestDecimal(t *testing.T) {
	cases := []struct {
		n    int
		want string
	}{
		{0, "0"}, {1, "1"}, {-1, "-1"}, {9, "9"}, {10, "10"}, {-10, "-10"}, {-5, "-5"},
		{99, "99"}, {100, "100"}, {1005, "1005"}, {-1005, "-1005"},
		{impl.MaxNumber, "1000000000"}, {impl.MaxNumber + 1, "1000000001"}, {-impl.MaxNumber, "-1000000000"},
		{math.MaxInt32 + 1, "2147483648"},
		{math.MaxInt, "9223372036854775807"},
		{math.MinInt, "-9223372036854775808"},
		{math.MinInt + 1, "-9223372036854775807"},
	}
	for _, c := range cases {
		if got := impl.Decimal(c.n); got != c.want {
			t.Errorf("Decimal(%d) = %q, want %q", c.n, got, c.want)
		}
	}
}

func wantRead(t *testing.T, n int) {
	t.Helper()
	if got, ok := impl.ReadDecimal(impl.Decimal(n)); !ok || got != n {
		t.Errorf("ReadDecimal(Decimal(%d)) = %d, %v", n, got, ok)
	}
	if got, ok := impl.ReadDecimal(strconv.Itoa(n)); !ok || got != n {
		t.Errorf("ReadDecimal of %d = %d, %v", n, got, ok)
	}
}

func TestReadDecimalIsInverse(t *testing.T) {
	for n := range 2000 {
		wantRead(t, n)
	}
	for power := 1; power < impl.MaxNumber; power *= 10 {
		for first := 1; first < 10; first++ {
			wantRead(t, first*power)
			wantRead(t, first*power-1)
			wantRead(t, first*power+1)
		}
	}
	wantRead(t, impl.MaxNumber-1)
	wantRead(t, impl.MaxNumber)
}

func TestReadDecimalRejects(t *testing.T) {
	texts := []string{
		"", " ", "-", "+",
		"00", "01", "007", "0000000001", "01000000000", "00000000000000000000", // leading zeros
		"+1", "+0", "-0", "-1", "-5", "--1", "-1000000000", "1-", "+01", // a sign
		" 1", "1 ", "1 2", "\t1", "1\n", "1\x00", "\x001", // other bytes
		"a", "1a", "a1", "0x10", "0b1", "0o7", "1_000", "1,000", "1.0", "1.", "1e3", "10/", ":1", "\xb11", "٣",
		"1000000001", "1000000010", "2000000000", "9999999999", "10000000000", // above the limit
		"2147483648", "4294967296", "4294967297", "9223372036854775807",
		"9223372036854775808", "18446744073709551616", "18446744073709551617", // wraparound
		"-9223372036854775808", "-9223372036854775809",
		strings.Repeat("1", 30), strings.Repeat("0", 30), strings.Repeat("9", 20000),
	}
	for _, text := range texts {
		if got, ok := impl.ReadDecimal(text); ok || got != 0 {
			t.Errorf("ReadDecimal(%.40q) = %d, %v; want a rejection", text, got, ok)
		}
	}
}

func wantParts(t *testing.T, line string, want ...string) {
	t.Helper()
	got, ok := impl.PartsOf(line)
	if !ok || !slices.Equal(got, want) {
		t.Errorf("PartsOf(%.60q) = %.60q, %v; want %.60q", line, got, ok, want)
	}
}

func wantNoParts(t *testing.T, line string) {
	t.Helper()
	if got, ok := impl.PartsOf(line); ok || got != nil {
		t.Errorf("PartsOf(%.60q) = %.60q, %v; want nil, false", line, got, ok)
	}
}

func TestPartsOf(t *testing.T) {
	wantParts(t, "")
	wantParts(t, " ")
	wantParts(t, "     ")
	wantParts(t, "tick", "tick")
	wantParts(t, "tick 1", "tick", "1")
	wantParts(t, " tick  1 ", "tick", "1")
	wantParts(t, "   lead", "lead")
	wantParts(t, "trail   ", "trail")
	wantParts(t, "b a b a", "b", "a", "b", "a")
	wantParts(t, "a,b;c # \"d e\"", "a,b;c", "#", "\"d", "e\"")
}

func TestPartsOfEveryByte(t *testing.T) {
	for b := range 256 {
		one := string([]byte{byte(b)})
		lines := []string{one, one + "ab cd", "ab" + one + "cd", "ab cd" + one}
		for _, line := range lines {
			if b < 32 || b > 126 {
				wantNoParts(t, line)
			} else if b > 32 {
				wantParts(t, line, strings.Split(line, " ")...)
			}
		}
	}
	wantParts(t, "!~", "!~")
	wantNoParts(t, "tick\t1")
	wantNoParts(t, "tick 1\n")
	wantNoParts(t, "tick 1\r")
	wantNoParts(t, "caf\xc3\xa9")
	wantNoParts(t, "a\u00a0b")
}

func TestPartsOfLongLines(t *testing.T) {
	longest := strings.Repeat("x", impl.MaxWords)
	wantParts(t, longest[1:], longest[1:])
	wantParts(t, longest, longest)
	wantParts(t, strings.Repeat(" ", impl.MaxWords))
	wantParts(t, strings.Repeat(" ", impl.MaxWords-1)+"x", "x")
	wantNoParts(t, longest+"x")
	wantNoParts(t, strings.Repeat(" ", impl.MaxWords+1))
	wantNoParts(t, "x"+strings.Repeat(" ", impl.MaxWords))
	wantNoParts(t, strings.Repeat("x", 100*impl.MaxWords))
	wantNoParts(t, longest[1:]+"\x7f")
	wantNoParts(t, "\x1f"+longest[1:])
}

func TestPartsOfManyParts(t *testing.T) {
	twelve := strings.Fields("a b c d e f g h i j k l")
	wantParts(t, strings.Join(twelve[1:], " "), twelve[1:]...)
	wantParts(t, strings.Join(twelve, " "), twelve...)
	wantParts(t, "  "+strings.Join(twelve, "   ")+"  ", twelve...)
	wantNoParts(t, strings.Join(twelve, " ")+" m")
	wantNoParts(t, strings.Repeat("a ", 100))
}

// A caller that changes one result must not change another one.
func TestPartsOfReturnsNewMemory(t *testing.T) {
	line := "a b c"
	first, _ := impl.PartsOf(line)
	for i := range first {
		first[i] = "changed"
	}
	_ = append(first, "more")
	wantParts(t, line, "a", "b", "c")
}

func TestBrought(t *testing.T) {
	cases := []struct{ n, least, most, want int }{
		{3, 1, 5, 3}, {1, 1, 5, 1}, {5, 1, 5, 5}, {0, 1, 5, 1}, {6, 1, 5, 5}, {9, 1, 5, 5},
		{-7, -5, -1, -5}, {0, -5, -1, -1}, {-3, -5, -1, -3}, {0, -5, 5, 0},
		{4, 4, 4, 4}, {3, 4, 4, 4}, {5, 4, 4, 4},
		{math.MaxInt, 0, 10, 10}, {math.MinInt, 0, 10, 0},
		{7, math.MinInt, math.MaxInt, 7},
		{math.MinInt, math.MinInt, math.MaxInt, math.MinInt},
		{math.MaxInt, math.MinInt, math.MaxInt, math.MaxInt},
		// most is less than least
		{0, 5, 1, 5}, {1, 5, 1, 5}, {3, 5, 1, 5}, {5, 5, 1, 5}, {9, 5, 1, 5},
		{0, math.MaxInt, math.MinInt, math.MaxInt}, {0, -1, -2, -1},
	}
	for _, c := range cases {
		if got := impl.Brought(c.n, c.least, c.most); got != c.want {
			t.Errorf("Brought(%d, %d, %d) = %d, want %d", c.n, c.least, c.most, got, c.want)
		}
	}
}

func TestBroughtIsInRange(t *testing.T) {
	for least := -6; least <= 6; least++ {
		for most := least; most <= 6; most++ {
			for n := -9; n <= 9; n++ {
				got := impl.Brought(n, least, most)
				if got < least || got > most || n >= least && n <= most && got != n {
					t.Fatalf("Brought(%d, %d, %d) = %d", n, least, most, got)
				}
			}
		}
	}
}
