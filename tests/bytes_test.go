package tests

import (
	"encoding/binary"
	"math"
	"strings"
	"testing"
	"unsafe"

	"loop.example/g00967/impl"
)

const widest = 6

// limitOf returns 256^width, the smallest number that does not fit.
func limitOf(width int) int {
	limit := 1
	for range width {
		limit *= 256
	}
	return limit
}

// libraryText is NumText of a number that fits, computed by the standard library.
func libraryText(n int, width int) string {
	whole := binary.BigEndian.AppendUint64(nil, uint64(n))
	return string(whole[len(whole)-width:])
}

// numbersOf returns numbers that fit into width bytes: around each power of two, and ones whose bytes all differ.
func numbersOf(width int) []int {
	var numbers []int
	limit := limitOf(width)
	for power := 1; power <= limit; power *= 2 {
		for _, n := range []int{power - 2, power - 1, power, power + 1} {
			if n >= 0 && n < limit {
				numbers = append(numbers, n)
			}
		}
	}
	for _, n := range []int{0x010203040506, 0x0605040302ff, 0xfedcba987654, 0x800080008000, 0x7f807f807f80} {
		numbers = append(numbers, n%limit)
	}
	return numbers
}

// badWidths are outside the range; eight times some of them is a small number again.
func badWidths() []int {
	return []int{
		0, 7, 8, 9, 16, 64, 255, 256, 257, 1 << 32, 1<<32 + 1, 1 << 61, 1<<61 + 1, 1<<61 + 6, math.MaxInt - 1, math.MaxInt,
		-1, -2, -6, -7, -8, -64, -256, -1 << 32, -1<<61 + 1, -1<<61 + 6, math.MinInt + 1, math.MinInt,
	}
}

// wantNumber checks NumText, and that NumAt finds the number wherever its bytes are.
func wantNumber(t *testing.T, n int, width int, text string) {
	t.Helper()
	if got := impl.NumText(n, width); got != text {
		t.Errorf("NumText(%d, %d) = %q; want %q", n, width, got, text)
	}
	for _, before := range []string{"", "\x00", "\xff", "x", "\x80\x01", "seven b", strings.Repeat("\xff", 100)} {
		for _, after := range []string{"", "\x00", "\xff", "after it"} {
			wantNumAt(t, before+text+after, len(before), width, n)
		}
	}
}

func wantNumAt(t *testing.T, s string, at int, width int, n int) {
	t.Helper()
	if got, ok := impl.NumAt(s, at, width); !ok || got != n {
		t.Errorf("NumAt(%.120q, %d, %d) = %d, %v; want %d", s, at, width, got, ok, n)
	}
}

func wantNoNumText(t *testing.T, n int, width int) {
	t.Helper()
	if got := impl.NumText(n, width); got != "" {
		t.Errorf("NumText(%d, %d) = %q; want nothing", n, width, got)
	}
}

func wantNoNumAt(t *testing.T, s string, at int, width int) {
	t.Helper()
	if got, ok := impl.NumAt(s, at, width); ok || got != 0 {
		t.Errorf("NumAt(%.40q, %d, %d) = %d, %v; want 0, false", s, at, width, got, ok)
	}
}

func wantTextAt(t *testing.T, s string, at int, many int, want string) {
	t.Helper()
	if got, ok := impl.TextAt(s, at, many); !ok || got != want {
		t.Errorf("TextAt(%.40q, %d, %d) = %.40q, %v; want %.40q", s, at, many, got, ok, want)
	}
}

func wantNoTextAt(t *testing.T, s string, at int, many int) {
	t.Helper()
	if got, ok := impl.TextAt(s, at, many); ok || got != "" {
		t.Errorf("TextAt(%.40q, %d, %d) = %.40q, %v; want nothing and false", s, at, many, got, ok)
	}
}

func TestKnownNumbers(t *testing.T) {
	for _, known := range []struct {
		n, width int
		text     string
	}{
		{0, 1, "\x00"}, {7, 1, "\x07"}, {127, 1, "\x7f"}, {128, 1, "\x80"}, {255, 1, "\xff"},
		{0, 2, "\x00\x00"}, {1, 2, "\x00\x01"}, {256, 2, "\x01\x00"}, {258, 2, "\x01\x02"}, {65535, 2, "\xff\xff"},
		{0, 3, "\x00\x00\x00"}, {65536, 3, "\x01\x00\x00"}, {0x123456, 3, "\x12\x34\x56"}, {16777215, 3, "\xff\xff\xff"},
		{1, 4, "\x00\x00\x00\x01"}, {0x61626364, 4, "abcd"}, {2147483648, 4, "\x80\x00\x00\x00"}, {4294967295, 4, "\xff\xff\xff\xff"},
		{4294967296, 5, "\x01\x00\x00\x00\x00"}, {impl.MaxNumber, 5, "\x00\x3b\x9a\xca\x00"}, {1099511627775, 5, "\xff\xff\xff\xff\xff"},
		{0, 6, "\x00\x00\x00\x00\x00\x00"}, {0x010203040506, 6, "\x01\x02\x03\x04\x05\x06"},
		{1 << 47, 6, "\x80\x00\x00\x00\x00\x00"}, {281474976710655, 6, "\xff\xff\xff\xff\xff\xff"},
	} {
		wantNumber(t, known.n, known.width, known.text)
	}
}

func TestNumbersOfEveryWidth(t *testing.T) {
	for width := 1; width <= widest; width++ {
		for _, n := range numbersOf(width) {
			wantNumber(t, n, width, libraryText(n, width))
		}
	}
}

func TestEveryNumberOfOneAndTwoBytes(t *testing.T) {
	for width := 1; width <= 2; width++ {
		for n := range limitOf(width) {
			text := libraryText(n, width)
			if got := impl.NumText(n, width); got != text {
				t.Fatalf("NumText(%d, %d) = %q; want %q", n, width, got, text)
			}
			if got, ok := impl.NumAt("\xff"+text+"\x01", 1, width); !ok || got != n {
				t.Fatalf("NumAt of %q = %d, %v; want %d", text, got, ok, n)
			}
		}
	}
}

func TestEveryByteAtEveryPlace(t *testing.T) {
	all := everyByte()
	for width := 1; width <= widest; width++ {
		for place := range width {
			for b := range len(all) {
				text := strings.Repeat("\x00", place) + all[b:b+1] + strings.Repeat("\x00", width-1-place)
				n := b * limitOf(width-1-place)
				wantNumAt(t, text, 0, width, n)
				if got := impl.NumText(n, width); got != text {
					t.Errorf("NumText(%d, %d) = %q; want %q", n, width, got, text)
				}
			}
		}
	}
}

func TestNumbersThatDoNotFit(t *testing.T) {
	for width := 1; width <= widest; width++ {
		limit := limitOf(width)
		wantNumber(t, limit-1, width, strings.Repeat("\xff", width))
		for _, n := range []int{limit, limit + 1, 2*limit - 1, 2 * limit, 128 * limit, 256*limit - 1, 256 * limit, limit * 1000} {
			wantNoNumText(t, n, width)
		}
		for n := limit; n > 0; n *= 2 {
			wantNoNumText(t, n, width)
			wantNoNumText(t, n+1, width)
		}
		wantNoNumText(t, math.MaxInt-1, width)
		wantNoNumText(t, math.MaxInt, width)
	}
	wantNoNumText(t, 256, 1)
	wantNoNumText(t, 65536, 2)
	wantNoNumText(t, 16777216, 3)
	wantNoNumText(t, 4294967296, 4)
	wantNoNumText(t, 1099511627776, 5)
	wantNoNumText(t, 281474976710656, 6)
}

func TestNegativeNumbers(t *testing.T) {
	for width := 1; width <= widest; width++ {
		for power := 1; power > 0; power *= 2 {
			wantNoNumText(t, -power, width)
			wantNoNumText(t, -power-1, width)
			wantNoNumText(t, -power+1-limitOf(width), width)
		}
		wantNoNumText(t, math.MinInt, width)
		wantNoNumText(t, math.MinInt+1, width)
	}
	for _, width := range badWidths() {
		wantNoNumText(t, -1, width)
		wantNoNumText(t, math.MinInt, width)
	}
}

func TestNumTextOfWidthsOutsideTheRange(t *testing.T) {
	for _, width := range badWidths() {
		for _, n := range []int{0, 1, 255, 256, 1<<48 - 1, 1 << 48, 1<<56 - 1, math.MaxInt} {
			wantNoNumText(t, n, width)
		}
	}
}

func TestNumAtOfWidthsOutsideTheRange(t *testing.T) {
	for _, s := range []string{"", "\x00", "abcdef", "abcdefg", sampleText(300)} {
		for _, width := range badWidths() {
			for _, at := range []int{0, 1, len(s) - 1, len(s), len(s) + 1, -1, math.MinInt, math.MaxInt} {
				wantNoNumAt(t, s, at, width)
			}
		}
	}
}

// Of each text, NumAt finds a number exactly where there are enough bytes.
func TestNumAtOfEveryOffset(t *testing.T) {
	long := sampleText(20)
	for size := range len(long) + 1 {
		s := long[:size]
		for width := 1; width <= widest; width++ {
			for at := -8; at <= size+8; at++ {
				if at < 0 || at+width > size {
					wantNoNumAt(t, s, at, width)
					continue
				}
				n := 0
				for _, b := range []byte(s[at : at+width]) {
					n = 256*n + int(b)
				}
				wantNumAt(t, s, at, width, n)
			}
		}
	}
}

func TestNumAtOfOneByteTooFew(t *testing.T) {
	for width := 1; width <= widest; width++ {
		s := strings.Repeat("\xff", width)
		wantNumAt(t, s, 0, width, limitOf(width)-1)
		wantNoNumAt(t, s[1:], 0, width)
		wantNoNumAt(t, s, 1, width)
		wantNumAt(t, "ab"+s, 2, width, limitOf(width)-1)
		wantNoNumAt(t, "ab"+s[1:], 2, width)
	}
}

func TestNumAtOfOffsetsFarOutside(t *testing.T) {
	for _, s := range []string{"", "\xff", "abcdef", sampleText(300)} {
		for width := 1; width <= widest; width++ {
			// An offset to which the width is added may wrap round to one within the text.
			for less := range 10 {
				wantNoNumAt(t, s, math.MaxInt-less, width)
				wantNoNumAt(t, s, math.MinInt+less, width)
			}
			for _, at := range []int{1 << 32, 1<<32 + 1, 1 << 62, -1 << 32, -1<<32 + 1, -1 << 62, -len(s) - 1, -width} {
				wantNoNumAt(t, s, at, width)
			}
		}
	}
}

// Neighbouring numbers of different widths are all found in one text.
func TestNumbersInARow(t *testing.T) {
	widths := []int{4, 4, 2, 2, 4, 4, 1, 1, 6, 3, 5}
	numbers := []int{4294967295, 0, 65535, 1, 2147483648, 7, 15, 255, 1<<48 - 1, 0x010203, 1 << 32}
	var row strings.Builder
	for i, width := range widths {
		row.WriteString(impl.NumText(numbers[i], width))
	}
	at := 0
	for i, width := range widths {
		wantNumAt(t, row.String(), at, width, numbers[i])
		at += width
	}
	if at != row.Len() {
		t.Errorf("the numbers have %d bytes; want %d", row.Len(), at)
	}
}

// Of each text, TextAt finds bytes exactly where there are enough; no bytes are found up to the end, but not outside.
func TestTextAtOfEveryOffset(t *testing.T) {
	long := sampleText(20)
	for size := range len(long) + 1 {
		s := long[:size]
		for at := -5; at <= size+5; at++ {
			for many := -5; many <= size+5; many++ {
				if at < 0 || at > size || many < 0 || at+many > size {
					wantNoTextAt(t, s, at, many)
				} else {
					wantTextAt(t, s, at, many, s[at:at+many])
				}
			}
		}
	}
}

func TestTextAtOfKnownTexts(t *testing.T) {
	wantTextAt(t, "abcd", 1, 2, "bc")
	wantTextAt(t, "abcd", 0, 4, "abcd")
	wantTextAt(t, "abcd", 0, 1, "a")
	wantTextAt(t, "abcd", 3, 1, "d")
	// bytes, not runes
	wantTextAt(t, "é", 1, 1, "\xa9")
	wantTextAt(t, "\x00\xff\x00", 1, 2, "\xff\x00")
	wantTextAt(t, everyByte(), 0, 256, everyByte())
	long := sampleText(100000)
	wantTextAt(t, long, 0, 100000, long)
	wantTextAt(t, long, 65536, 30000, long[65536:95536])
	wantNoTextAt(t, long, 0, 100001)
	wantNoTextAt(t, long, 1, 100000)
}

func TestTextAtOfNoBytes(t *testing.T) {
	wantTextAt(t, "", 0, 0, "")
	wantTextAt(t, "abcd", 0, 0, "")
	wantTextAt(t, "abcd", 2, 0, "")
	wantTextAt(t, "abcd", 4, 0, "")
	wantNoTextAt(t, "", 1, 0)
	wantNoTextAt(t, "", -1, 0)
	wantNoTextAt(t, "abcd", 5, 0)
	wantNoTextAt(t, "abcd", -1, 0)
	wantNoTextAt(t, "abcd", -4, 0)
	wantNoTextAt(t, "abcd", math.MaxInt, 0)
	wantNoTextAt(t, "abcd", math.MinInt, 0)
}

func TestTextAtOfVeryLargeNumbers(t *testing.T) {
	far := []int{1 << 32, 1<<32 + 1, 1 << 62, math.MaxInt - 4, math.MaxInt - 3, math.MaxInt - 1, math.MaxInt}
	low := []int{-1, -2, -4, -1 << 32, -1<<32 + 1, -1 << 62, math.MinInt + 4, math.MinInt + 1, math.MinInt}
	for _, s := range []string{"", "a", "abcd", sampleText(300)} {
		for _, large := range append(far, low...) {
			for near := -1; near <= 5; near++ {
				wantNoTextAt(t, s, near, large)
				wantNoTextAt(t, s, large, near)
			}
			// Sums of such offsets and numbers of bytes may wrap round to an offset within the text.
			for _, other := range append(far, low...) {
				wantNoTextAt(t, s, large, other)
			}
		}
	}
}

func TestTextAtReturnsNewMemory(t *testing.T) {
	s := sampleText(40)
	for _, part := range []struct{ at, many int }{{0, 40}, {0, 1}, {39, 1}, {7, 20}} {
		got, _ := impl.TextAt(s, part.at, part.many)
		if unsafe.StringData(got) == unsafe.StringData(s[part.at:]) {
			t.Errorf("TextAt(s, %d, %d) shares memory with its argument", part.at, part.many)
		}
	}
}

// What NumText writes, TextAt cuts out again.
func TestTextAtOfNumbers(t *testing.T) {
	for width := 1; width <= widest; width++ {
		for _, n := range numbersOf(width) {
			text := libraryText(n, width)
			wantTextAt(t, "before"+text+"after", 6, width, text)
		}
	}
}
