package tests

import (
	"crypto/sha256"
	"encoding/binary"
	"encoding/hex"
	"fmt"
	"math"
	"strings"
	"testing"

	"loop.example/g00967/impl"
)

const (
	keyA = "aaaaaaaa"
	keyB = "bbbbbbbb"
)

// libraryJoin is JoinMark of valid arguments, computed by the standard library.
func libraryJoin(mine string, theirs string, n int, m int) string {
	return libraryMark(mine+theirs, libraryText(n, 4)+libraryText(m, 4))
}

// libraryAddr is AddrMark of valid arguments, computed by the standard library.
func libraryAddr(mine string, theirs string, id int, addr int, port int) string {
	return libraryMark(mine+theirs, libraryText(id, 1)+libraryText(addr, 4)+libraryText(port, 2))[24:]
}

// fromHex decodes digits that a test states.
func fromHex(t *testing.T, digits string) string {
	t.Helper()
	text, err := hex.DecodeString(digits)
	if err != nil {
		t.Fatal(err)
	}
	return string(text)
}

// sampleKeys are valid: among them ones of zero bytes, of bytes that are no text, and ones that differ in a bit only.
func sampleKeys() []string {
	return []string{
		keyA, keyB, "12345678", "        ", "\x00\x00\x00\x00\x00\x00\x00\x00", "\x00\x00\x00\x00\x00\x00\x00\x01",
		"\x80\x00\x00\x00\x00\x00\x00\x00", "\xff\xff\xff\xff\xff\xff\xff\xff", "\x01\x02\x03\x04\x05\x06\x07\x08",
		"aaaaaaab", "`aaaaaaa", "éééé", sampleText(8), sampleText(16)[8:],
	}
}

// badKeys have any length but that of a key.
func badKeys() []string {
	keys := []string{
		"", "a", "aaaaaaa", "aaaaaaaaa", "\x00", "\x00\x00\x00\x00\x00\x00\x00", "\x00\x00\x00\x00\x00\x00\x00\x00\x00",
		keyA + keyB, "éééééééé", " " + keyA, keyA + "\x00", "6161616161616161",
	}
	for size := range 40 {
		if size != 8 {
			keys = append(keys, sampleText(size))
		}
	}
	// Lengths whose lowest bits are those of a valid one.
	for _, size := range []int{63, 64, 65, 72, 256, 264, 65536, 65544} {
		keys = append(keys, sampleText(size))
	}
	return keys
}

// numbersAround returns numbers that fit into width bytes, the smallest and the largest among them.
func numbersAround(width int) []int {
	limit := limitOf(width)
	return []int{0, 1, 2, limit/2 - 1, limit / 2, 0x0102030405 % limit, limit - 2, limit - 1}
}

// numbersOutside returns numbers that do not fit into width bytes, or are negative; the lowest bytes of some are 0 or 1.
func numbersOutside(width int) []int {
	limit := limitOf(width)
	return []int{
		-1, -2, 1 - limit, -limit, -limit - 1, -1 << 32, -1<<32 + 1, -1 << 62, math.MinInt + 1, math.MinInt,
		limit, limit + 1, 2*limit - 1, 2 * limit, 256*limit - 1, 256 * limit, 1 << 40, 1<<48 - 1, 1 << 48, 1<<48 + 1,
		1 << 56, 1 << 62, 1<<62 + 1, math.MaxInt - 1, math.MaxInt,
	}
}

// wantKey checks TokenOf and StartOf of a valid key.
func wantKey(t *testing.T, key string, token int, start string) {
	t.Helper()
	if !impl.KeyOk(key) {
		t.Errorf("KeyOk(%q) is false", key)
	}
	if got := impl.TokenOf(key); got != token {
		t.Errorf("TokenOf(%q) = %d; want %d", key, got, token)
	}
	if got := impl.StartOf(key); got != start {
		t.Errorf("StartOf(%q) = %x; want %x", key, got, start)
	}
}

// wantJoin checks JoinMark, and BackMark and DoneMark, which are its beginnings.
func wantJoin(t *testing.T, mine string, theirs string, n int, m int, want string) {
	t.Helper()
	if got := impl.JoinMark(mine, theirs, n, m); got != want {
		t.Errorf("JoinMark(%q, %q, %d, %d) = %x; want %x", mine, theirs, n, m, got, want)
	}
	if got := impl.BackMark(mine, theirs, n, m); got != want[:8] {
		t.Errorf("BackMark(%q, %q, %d, %d) = %x; want %x", mine, theirs, n, m, got, want[:8])
	}
	if got := impl.DoneMark(mine, theirs, n, m); got != want[:20] {
		t.Errorf("DoneMark(%q, %q, %d, %d) = %x; want %x", mine, theirs, n, m, got, want[:20])
	}
}

func wantNoJoin(t *testing.T, mine string, theirs string, n int, m int) {
	t.Helper()
	for name, got := range map[string]string{
		"JoinMark": impl.JoinMark(mine, theirs, n, m),
		"BackMark": impl.BackMark(mine, theirs, n, m),
		"DoneMark": impl.DoneMark(mine, theirs, n, m),
	} {
		if got != "" {
			t.Errorf("%s(%.40q, %.40q, %d, %d) = %x; want nothing", name, mine, theirs, n, m, got)
		}
	}
}

func wantAddr(t *testing.T, mine string, theirs string, id int, addr int, port int, want string) {
	t.Helper()
	if got := impl.AddrMark(mine, theirs, id, addr, port); got != want {
		t.Errorf("AddrMark(%q, %q, %d, %d, %d) = %x; want %x", mine, theirs, id, addr, port, got, want)
	}
}

func wantNoAddr(t *testing.T, mine string, theirs string, id int, addr int, port int) {
	t.Helper()
	if got := impl.AddrMark(mine, theirs, id, addr, port); got != "" {
		t.Errorf("AddrMark(%.40q, %.40q, %d, %d, %d) = %x; want nothing", mine, theirs, id, addr, port, got)
	}
}

// wantKeysRefused checks that no code is computed under these two keys.
func wantKeysRefused(t *testing.T, mine string, theirs string) {
	t.Helper()
	for _, n := range []int{0, 1, maxWord, -1, maxWord + 1} {
		wantNoJoin(t, mine, theirs, n, 2)
		wantNoJoin(t, mine, theirs, 2, n)
		wantNoAddr(t, mine, theirs, n, 2, 3)
		wantNoAddr(t, mine, theirs, 1, n, 3)
		wantNoAddr(t, mine, theirs, 1, 2, n)
	}
}

func TestKeySize(t *testing.T) {
	if impl.KeySize != 8 {
		t.Errorf("KeySize = %d", impl.KeySize)
	}
}

func TestKeyOkOfEveryLength(t *testing.T) {
	long := sampleText(600)
	for size := range len(long) + 1 {
		if got := impl.KeyOk(long[:size]); got != (size == 8) {
			t.Errorf("KeyOk of %d bytes is %v", size, got)
		}
	}
	for _, size := range []int{65535, 65536, 65543, 65544, 65545, 1 << 20, 1<<20 + 8} {
		if impl.KeyOk(sampleText(size)) {
			t.Errorf("KeyOk of %d bytes is true", size)
		}
	}
}

func TestKeyOkCountsBytes(t *testing.T) {
	for _, key := range sampleKeys() {
		if !impl.KeyOk(key) {
			t.Errorf("KeyOk(%q) is false", key)
		}
	}
	for _, key := range badKeys() {
		if impl.KeyOk(key) {
			t.Errorf("KeyOk(%.40q) is true", key)
		}
	}
	for _, b := range []byte(everyByte()) {
		if !impl.KeyOk(strings.Repeat(string([]byte{b}), 8)) {
			t.Errorf("KeyOk of 8 bytes %d is false", b)
		}
	}
}

func TestTokenAndStartOfKnownKeys(t *testing.T) {
	for _, known := range []struct {
		key   string
		token int
		start string
	}{
		{keyA, 524084228, "249b592dcebd20b4"},
		{keyB, 4214852806, "c9a1f9004b919a06"},
		{"\x00\x00\x00\x00\x00\x00\x00\x00", 2941612277, "e5b2328de0e83dfc"},
		{"\xff\xff\xff\xff\xff\xff\xff\xff", 312716868, "57fb595bbbacf0ca"},
		{"12345678", 4017716353, "c95c5ed7a898a64f"},
		{"\x01\x02\x03\x04\x05\x06\x07\x08", 1719930330, "f5a101d3d29d6f72"},
	} {
		wantKey(t, known.key, known.token, fromHex(t, known.start))
	}
}

func TestTokenAndStartOfManyKeys(t *testing.T) {
	keys := sampleKeys()
	long := sampleText(1000)
	for at := range len(long) - 8 {
		keys = append(keys, long[at:at+8])
	}
	for bit := range 64 {
		keys = append(keys, bitChanged(keyA, bit))
	}
	for _, key := range keys {
		digest := sha256.Sum256([]byte(key))
		wantKey(t, key, int(binary.BigEndian.Uint32(digest[:4])), string(digest[24:]))
	}
}

func TestTokenAndStartOfBadKeys(t *testing.T) {
	for _, key := range badKeys() {
		if got := impl.TokenOf(key); got != 0 {
			t.Errorf("TokenOf(%.40q) = %d; want 0", key, got)
		}
		if got := impl.StartOf(key); got != "" {
			t.Errorf("StartOf(%.40q) = %x; want nothing", key, got)
		}
	}
}

func TestTokensAreInTheRangeOfANonce(t *testing.T) {
	large := 0
	for _, key := range sampleKeys() {
		token := impl.TokenOf(key)
		if token < 0 || token > maxWord {
			t.Errorf("TokenOf(%q) = %d", key, token)
		}
		if token > math.MaxInt32 {
			large++
		}
	}
	if large == 0 {
		t.Error("no token has its highest bit set")
	}
}

func TestJoinMarkOfKnownValues(t *testing.T) {
	zeros, ones := "\x00\x00\x00\x00\x00\x00\x00\x00", "\xff\xff\xff\xff\xff\xff\xff\xff"
	for _, known := range []struct {
		mine, theirs string
		n, m         int
		digits       string
	}{
		{keyA, keyB, 1, 2, "30547dbfd51babf2e237d83cc89e8e0c051142aa9c76671c5e3e5af7e2b1306a"},
		{keyB, keyA, 1, 2, "7621e0a182e3695bd584eb760f94a9f2cf187049abe2ab52ef5beac62b0ca0ef"},
		{keyB, keyA, 2, 1, "8ef4449f637a5ab5a4aa4e61d415a2bb80e6409ac58113681f84f41b7ce5d018"},
		{keyA, keyB, 2, 1, "4afcd5534dea407f10c80912ce335db062c5c49303ee2e838d2c5a48b25045d4"},
		{keyA, keyB, 0, 0, "5c03d244d51fd6144c0445eac9508c3a600246b70b8e16d3e1f7b66eefcd116b"},
		{keyA, keyB, 4294967295, 4294967295, "08c160b6e83d4004f2c506c436d42d4e4f6200177a59501515b032cf0b7c92c3"},
		{zeros, ones, 0, 4294967295, "c5828a66d07af189358d92a04ca90d72f9ce8be23439eb6eeede0ed4c8036b7c"},
		{"12345678", "12345678", 305419896, 2147483648, "7bc460fd7d32023f73e150652d392d402aeff013c494eb0c6670898870d3ccf5"},
	} {
		wantJoin(t, known.mine, known.theirs, known.n, known.m, fromHex(t, known.digits))
	}
}

func TestJoinMarkOfManyKeys(t *testing.T) {
	for _, mine := range sampleKeys() {
		for _, theirs := range sampleKeys() {
			wantJoin(t, mine, theirs, 0, 0, libraryJoin(mine, theirs, 0, 0))
			wantJoin(t, mine, theirs, 7, maxWord, libraryJoin(mine, theirs, 7, maxWord))
		}
	}
}

func TestJoinMarkOfManyNumbers(t *testing.T) {
	for _, n := range numbersOf(4) {
		for _, m := range numbersAround(4) {
			wantJoin(t, keyA, keyB, n, m, libraryJoin(keyA, keyB, n, m))
			wantJoin(t, keyA, keyB, m, n, libraryJoin(keyA, keyB, m, n))
		}
	}
}

func TestJoinMarkIsAnHmacOfThePartsInARow(t *testing.T) {
	for _, n := range numbersAround(4) {
		text := impl.NumText(n, 4) + impl.NumText(77, 4)
		if !impl.HmacOk(keyA+keyB, text, impl.JoinMark(keyA, keyB, n, 77)) {
			t.Errorf("HmacOk does not accept JoinMark of %d", n)
		}
		if got, want := impl.BackMark(keyA, keyB, n, 77), impl.CutMark(keyA+keyB, text, 8); got != want {
			t.Errorf("BackMark of %d = %x; CutMark gives %x", n, got, want)
		}
		if got, want := impl.DoneMark(keyA, keyB, n, 77), impl.CutMark(keyA+keyB, text, 20); got != want {
			t.Errorf("DoneMark of %d = %x; CutMark gives %x", n, got, want)
		}
	}
}

func TestJoinMarkOfNumbersOutsideTheRange(t *testing.T) {
	wantJoin(t, keyA, keyB, 0, 4294967295, libraryJoin(keyA, keyB, 0, 4294967295))
	wantJoin(t, keyA, keyB, 4294967295, 0, libraryJoin(keyA, keyB, 4294967295, 0))
	for _, bad := range [][2]int{{-1, 0}, {0, -1}, {4294967296, 0}, {0, 4294967296}, {-1, 4294967296}, {4294967296, -1}} {
		wantNoJoin(t, keyA, keyB, bad[0], bad[1])
	}
	for _, outside := range numbersOutside(4) {
		for _, n := range append(numbersAround(4), outside, -outside) {
			wantNoJoin(t, keyA, keyB, outside, n)
			wantNoJoin(t, keyA, keyB, n, outside)
		}
	}
}

func TestAddrMarkOfKnownValues(t *testing.T) {
	zeros, ones := "\x00\x00\x00\x00\x00\x00\x00\x00", "\xff\xff\xff\xff\xff\xff\xff\xff"
	for _, known := range []struct {
		mine, theirs   string
		id, addr, port int
		digits         string
	}{
		{keyA, keyB, 1, 2, 3, "4c920c8d4ae394ad"},
		{keyB, keyA, 1, 2, 3, "23c408232b0d30a4"},
		{keyA, keyB, 0, 0, 0, "69f1b1e0e94b9637"},
		{keyA, keyB, 255, 4294967295, 65535, "084aae2d2d8da926"},
		{zeros, ones, 0, 4294967295, 0, "bde37eeccb634875"},
		{"12345678", "12345678", 128, 2147483648, 32768, "e5539231001ad500"},
	} {
		wantAddr(t, known.mine, known.theirs, known.id, known.addr, known.port, fromHex(t, known.digits))
	}
}

func TestAddrMarkOfManyKeys(t *testing.T) {
	for _, mine := range sampleKeys() {
		for _, theirs := range sampleKeys() {
			wantAddr(t, mine, theirs, 3, 0x01020304, 443, libraryAddr(mine, theirs, 3, 0x01020304, 443))
		}
	}
}

func TestAddrMarkOfManyNumbers(t *testing.T) {
	for id := range 256 {
		wantAddr(t, keyA, keyB, id, 9, 10, libraryAddr(keyA, keyB, id, 9, 10))
	}
	for _, addr := range numbersOf(4) {
		wantAddr(t, keyA, keyB, 9, addr, 10, libraryAddr(keyA, keyB, 9, addr, 10))
	}
	for _, port := range numbersOf(2) {
		wantAddr(t, keyA, keyB, 9, 10, port, libraryAddr(keyA, keyB, 9, 10, port))
	}
	for _, id := range numbersAround(1) {
		for _, addr := range numbersAround(4) {
			for _, port := range numbersAround(2) {
				wantAddr(t, keyA, keyB, id, addr, port, libraryAddr(keyA, keyB, id, addr, port))
			}
		}
	}
}

// AddrMark is the end of a code: its beginning, which CutMark gives, is not the same.
func TestAddrMarkIsTheEndOfAnHmac(t *testing.T) {
	for _, id := range numbersAround(1) {
		text := impl.NumText(id, 1) + impl.NumText(5, 4) + impl.NumText(6, 2)
		got := impl.AddrMark(keyA, keyB, id, 5, 6)
		if whole := impl.Hmac(keyA+keyB, text); got != whole[24:] {
			t.Errorf("AddrMark of %d = %x; want the last 8 bytes of %x", id, got, whole)
		}
		if got == impl.CutMark(keyA+keyB, text, 8) {
			t.Errorf("AddrMark of %d = %x, the first 8 bytes", id, got)
		}
	}
}

func TestAddrMarkOfNumbersThatDoNotFit(t *testing.T) {
	for _, fits := range [][3]int{{255, 0, 0}, {0, 4294967295, 0}, {0, 0, 65535}} {
		wantAddr(t, keyA, keyB, fits[0], fits[1], fits[2], libraryAddr(keyA, keyB, fits[0], fits[1], fits[2]))
	}
	for _, bad := range [][3]int{
		{256, 0, 0}, {0, 4294967296, 0}, {0, 0, 65536}, {-1, 0, 0}, {0, -1, 0}, {0, 0, -1},
		// Each of these numbers would fit into another's bytes.
		{65535, 255, 255}, {255, 65535, 4294967295}, {4294967295, 255, 65535},
		{256, 4294967296, 65536}, {-1, -1, -1}, {-1, 4294967296, 65536}, {256, -1, 65536}, {256, 4294967296, -1},
	} {
		wantNoAddr(t, keyA, keyB, bad[0], bad[1], bad[2])
	}
	for _, id := range numbersOutside(1) {
		wantNoAddr(t, keyA, keyB, id, 2, 3)
		wantNoAddr(t, keyA, keyB, id, maxWord, 65535)
		wantNoAddr(t, keyA, keyB, id, id, id)
	}
	for _, addr := range numbersOutside(4) {
		wantNoAddr(t, keyA, keyB, 1, addr, 3)
		wantNoAddr(t, keyA, keyB, 255, addr, 65535)
	}
	for _, port := range numbersOutside(2) {
		wantNoAddr(t, keyA, keyB, 1, 2, port)
		wantNoAddr(t, keyA, keyB, 255, maxWord, port)
	}
}

// A key of 7 or 9 bytes, or none, is refused in either place, whatever the other key and the numbers are.
func TestMarksUnderBadKeys(t *testing.T) {
	for _, bad := range []string{"", "aaaaaaa", "aaaaaaaaa"} {
		wantKeysRefused(t, bad, keyB)
		wantKeysRefused(t, keyB, bad)
		wantKeysRefused(t, bad, bad)
	}
	for _, bad := range badKeys() {
		wantKeysRefused(t, bad, keyB)
		wantKeysRefused(t, keyB, bad)
		wantKeysRefused(t, bad, bad)
	}
}

// Two keys that have the bytes of two valid ones together are refused, if neither has its own.
func TestKeysThatHaveSixteenBytesTogether(t *testing.T) {
	for _, both := range []string{keyA + keyB, sampleText(16), strings.Repeat("\x00", 16)} {
		for size := range 17 {
			mine, theirs := both[:size], both[size:]
			if size != 8 {
				wantKeysRefused(t, mine, theirs)
				continue
			}
			wantJoin(t, mine, theirs, 1, 2, libraryJoin(mine, theirs, 1, 2))
			wantAddr(t, mine, theirs, 1, 2, 3, libraryAddr(mine, theirs, 1, 2, 3))
		}
	}
}

// side is an endpoint after the handshake: it has its own key and the other one's.
type side struct {
	own, far string
}

// codesSent are the codes that an endpoint sends, under its own key first.
func (s side) codesSent(n int, m int) []string {
	return []string{
		impl.JoinMark(s.own, s.far, n, m), impl.BackMark(s.own, s.far, n, m), impl.DoneMark(s.own, s.far, n, m),
		impl.AddrMark(s.own, s.far, n%256, m, n%65536),
	}
}

// codesAwaited are the codes that an endpoint expects from the other one, under the other one's key first.
func (s side) codesAwaited(n int, m int) []string {
	return side{s.far, s.own}.codesSent(n, m)
}

// Promise 5: what one endpoint sends is what the other one expects, in each direction, and again when it is computed again.
func TestBothEndpointsComputeTheSameCodes(t *testing.T) {
	for _, one := range sampleKeys() {
		for _, two := range sampleKeys() {
			a, b := side{one, two}, side{two, one}
			for _, numbers := range [][2]int{{0, 0}, {1, 2}, {0, maxWord}, {maxWord, 0}, {maxWord, maxWord}} {
				n, m := numbers[0], numbers[1]
				wantCodes(t, a.codesSent(n, m), b.codesAwaited(n, m))
				wantCodes(t, b.codesSent(m, n), a.codesAwaited(m, n))
				wantCodes(t, a.codesSent(n, m), a.codesSent(n, m))
			}
		}
	}
}

func wantCodes(t *testing.T, sent []string, awaited []string) {
	t.Helper()
	for i, size := range []int{32, 8, 20, 8} {
		if len(sent[i]) != size || sent[i] != awaited[i] {
			t.Errorf("code %d: %x is sent, %x is expected", i, sent[i], awaited[i])
		}
	}
}

// The codes of the two directions differ, so that none can be sent back to the endpoint that computed it.
func TestCodesOfTheTwoDirectionsDiffer(t *testing.T) {
	for i, one := range sampleKeys() {
		for _, two := range sampleKeys()[:i] {
			a, b := side{one, two}, side{two, one}
			for _, numbers := range [][2]int{{0, 0}, {1, 2}, {0, maxWord}, {maxWord, 0}, {maxWord, maxWord}} {
				n, m := numbers[0], numbers[1]
				wantOthers(t, a.codesSent(n, m), b.codesSent(n, m))
				wantOthers(t, a.codesSent(n, m), b.codesSent(m, n))
			}
		}
	}
	// Even under two equal keys the numbers tell the directions apart.
	for _, key := range sampleKeys() {
		same := side{key, key}
		wantOthers(t, same.codesSent(1, 2), same.codesSent(2, 1))
		wantOthers(t, same.codesSent(0, maxWord), same.codesSent(maxWord, 0))
	}
}

func wantOthers(t *testing.T, codes []string, others []string) {
	t.Helper()
	for i := range codes {
		if codes[i] == others[i] {
			t.Errorf("code %d is %x in both directions", i, codes[i])
		}
	}
}

// noteCode remembers whose code this is, and that no other arguments have it.
func noteCode(t *testing.T, seen map[string]string, code string, of ...any) {
	t.Helper()
	name := fmt.Sprint(of...)
	if other, ok := seen[code]; ok {
		t.Errorf("%s and %s have the code %x", other, name, code)
	}
	seen[code] = name
}

// No two different arguments have the same code, also not ones whose bytes are the same but divided otherwise.
func TestCodesOfOtherNumbersDiffer(t *testing.T) {
	seen := map[string]string{}
	for _, n := range numbersAround(4) {
		for _, m := range numbersAround(4) {
			noteCode(t, seen, impl.JoinMark(keyA, keyB, n, m), "join ", n, m)
			noteCode(t, seen, impl.JoinMark(keyB, keyA, n, m), "join back ", n, m)
			noteCode(t, seen, impl.BackMark(keyA, keyB, n, m), "back ", n, m)
			noteCode(t, seen, impl.DoneMark(keyA, keyB, n, m), "done ", n, m)
		}
	}
	for _, id := range numbersAround(1) {
		for _, addr := range numbersAround(4) {
			for _, port := range numbersAround(2) {
				noteCode(t, seen, impl.AddrMark(keyA, keyB, id, addr, port), "addr ", id, addr, port)
				noteCode(t, seen, impl.AddrMark(keyB, keyA, id, addr, port), "addr back ", id, addr, port)
			}
		}
	}
}

func TestCodesOfOtherKeysDiffer(t *testing.T) {
	seen := map[string]string{}
	noteCode(t, seen, impl.JoinMark(keyA, keyB, 1, 3), "join")
	noteCode(t, seen, impl.AddrMark(keyA, keyB, 1, 3, 5), "addr")
	for bit := range 64 {
		noteCode(t, seen, impl.JoinMark(bitChanged(keyA, bit), keyB, 1, 3), "join, mine ", bit)
		noteCode(t, seen, impl.JoinMark(keyA, bitChanged(keyB, bit), 1, 3), "join, theirs ", bit)
		noteCode(t, seen, impl.AddrMark(bitChanged(keyA, bit), keyB, 1, 3, 5), "addr, mine ", bit)
		noteCode(t, seen, impl.AddrMark(keyA, bitChanged(keyB, bit), 1, 3, 5), "addr, theirs ", bit)
	}
}
