package tests

import (
	"crypto/hmac"
	"crypto/sha256"
	"encoding/hex"
	"math"
	"strings"
	"testing"
	"unsafe"

	"loop.example/g00967/impl"
)

// libraryMark is Hmac, computed by the standard library.
func libraryMark(key string, text string) string {
	mark := hmac.New(sha256.New, []byte(key))
	mark.Write([]byte(text))
	return string(mark.Sum(nil))
}

// bitChanged returns text with one of its bits changed.
func bitChanged(text string, bit int) string {
	changed := []byte(text)
	changed[bit/8] ^= 1 << (bit % 8)
	return string(changed)
}

// wantMark checks Hmac, and that HmacOk accepts the code.
func wantMark(t *testing.T, key string, text string, want string) {
	t.Helper()
	if got := impl.Hmac(key, text); got != want {
		t.Errorf("Hmac(%.40q, %.40q) with %d and %d bytes = %x; want %x", key, text, len(key), len(text), got, want)
	}
	if !impl.HmacOk(key, text, want) {
		t.Errorf("HmacOk(%.40q, %.40q, %x) is false", key, text, want)
	}
}

// wantNoMark checks that a code is not that of key and text.
func wantNoMark(t *testing.T, key string, text string, tag string) {
	t.Helper()
	if impl.HmacOk(key, text, tag) {
		t.Errorf("HmacOk(%.80q, %.80q, %x) is true", key, text, tag)
	}
	if got := impl.Hmac(key, text); got == tag {
		t.Errorf("Hmac(%.80q, %.80q) = %x, which is another code", key, text, got)
	}
}

// wantSame checks SameBytes in both directions.
func wantSame(t *testing.T, a string, b string, want bool) {
	t.Helper()
	if got := impl.SameBytes(a, b); got != want {
		t.Errorf("SameBytes(%.60q, %.60q) = %v", a, b, got)
	}
	if got := impl.SameBytes(b, a); got != want {
		t.Errorf("SameBytes(%.60q, %.60q) = %v", b, a, got)
	}
}

func TestHmacOfPublishedValues(t *testing.T) {
	// All but the first two are the cases of RFC 4231; its fifth, which is cut, is a test of its own below.
	for _, known := range []struct{ key, text, digits string }{
		{"", "", "b613679a0814d9ec772f95d778c35fc5ff1697c493715653c6c712144292c5ad"},
		{"key", "The quick brown fox jumps over the lazy dog", "f7bc83f430538424b13298e6aa6fb143ef4d59a14946175997479dbc2d1a3cd8"},
		{strings.Repeat("\x0b", 20), "Hi There", "b0344c61d8db38535ca8afceaf0bf12b881dc200c9833da726e9376c2e32cff7"},
		{"Jefe", "what do ya want for nothing?", "5bdcc146bf60754e6a042426089575c75a003f089d2739839dec58b964ec3843"},
		{strings.Repeat("\xaa", 20), strings.Repeat("\xdd", 50), "773ea91e36800e46854db8ebd09181a72959098b3ef8c122d9635514ced565fe"},
		{"\x01\x02\x03\x04\x05\x06\x07\x08\x09\x0a\x0b\x0c\x0d\x0e\x0f\x10\x11\x12\x13\x14\x15\x16\x17\x18\x19", strings.Repeat("\xcd", 50), "82558a389a443c0ea4cc819899f2083a85f0faa3e578f8077a2e3ff46729665b"},
		{strings.Repeat("\xaa", 131), "Test Using Larger Than Block-Size Key - Hash Key First", "60e431591ee0b67f0d8a26aacbf5b77f8e0bc6213728c5140546040f0ee37f54"},
		{strings.Repeat("\xaa", 131), "This is a test using a larger than block-size key and a larger than block-size data. The key needs to be hashed before being used by the HMAC algorithm.", "9b09ffa71b942fcb27635fbcd5b0e944bfdc63644f0713938a7f51535c3a35e2"},
	} {
		want, err := hex.DecodeString(known.digits)
		if err != nil {
			t.Fatal(err)
		}
		wantMark(t, known.key, known.text, string(want))
	}
}

func TestHmacOfKeysOfEveryLengthUpToThreeBlocks(t *testing.T) {
	keys := sampleText(3*impl.BlockSize + 1)
	for size := range len(keys) + 1 {
		for _, text := range []string{"", "a", sampleText(impl.BlockSize), sampleText(100)} {
			wantMark(t, keys[:size], text, libraryMark(keys[:size], text))
		}
	}
}

func TestHmacOfTextsOfEveryLengthUpToThreeBlocks(t *testing.T) {
	texts := sampleText(3*impl.BlockSize + 1)
	for size := range len(texts) + 1 {
		for _, key := range []string{"", "Jefe", sampleText(impl.BlockSize), sampleText(impl.BlockSize + 1)} {
			wantMark(t, key, texts[:size], libraryMark(key, texts[:size]))
		}
	}
}

func TestHmacOfSingleBytes(t *testing.T) {
	all := everyByte()
	for i := range len(all) {
		wantMark(t, all[i:i+1], "text", libraryMark(all[i:i+1], "text"))
		wantMark(t, "key", all[i:i+1], libraryMark("key", all[i:i+1]))
	}
	wantMark(t, all, all, libraryMark(all, all))
}

func TestHmacOfLongKeysAndTexts(t *testing.T) {
	for _, size := range []int{8191, 8192, impl.MaxText, impl.MaxText + 1, 1000000} {
		long := sampleText(size)
		wantMark(t, "key", long, libraryMark("key", long))
		wantMark(t, long, "text", libraryMark(long, "text"))
	}
}

func TestHmacIsMadeOfTwoDigests(t *testing.T) {
	for _, size := range []int{0, 1, 63, 64, 65, 200} {
		key, text := sampleText(size), sampleText(size+7)
		inner, outer := []byte(impl.HmacKey(key)), []byte(impl.HmacKey(key))
		for i := range inner {
			inner[i] ^= 54
			outer[i] ^= 92
		}
		want := impl.Digest(string(outer) + impl.Digest(string(inner)+text))
		if got := impl.Hmac(key, text); got != want {
			t.Errorf("Hmac of a key of %d bytes = %x; the two digests give %x", size, got, want)
		}
	}
}

func TestHmacKeyOfEveryLengthUpToThreeBlocks(t *testing.T) {
	keys := sampleText(3*impl.BlockSize + 1)
	zeros := strings.Repeat("\x00", impl.BlockSize)
	for size := range len(keys) + 1 {
		key := keys[:size]
		want := key
		if size > impl.BlockSize {
			digest := sha256.Sum256([]byte(key))
			want = string(digest[:])
		}
		want += zeros[len(want):]
		if got := impl.HmacKey(key); got != want {
			t.Errorf("HmacKey of %d bytes = %x; want %x", size, got, want)
		}
	}
}

func TestHmacKeyOfKnownKeys(t *testing.T) {
	zeros := strings.Repeat("\x00", impl.BlockSize)
	full := strings.Repeat("k", impl.BlockSize)
	longer := sha256.Sum256([]byte(full + "k"))
	digestAndZeros := string(longer[:]) + zeros[impl.DigestSize:]
	for _, known := range []struct{ key, want string }{
		{"", zeros},
		{"\x00", zeros},
		{zeros, zeros},
		{"Jefe", "Jefe" + zeros[4:]},
		{"\x00k", "\x00k" + zeros[2:]},
		{full[1:], full[1:] + "\x00"},
		{full, full},
		{full + "k", digestAndZeros},
		{digestAndZeros, digestAndZeros},
	} {
		if got := impl.HmacKey(known.key); got != known.want {
			t.Errorf("HmacKey(%q) = %q; want %q", known.key, got, known.want)
		}
	}
}

func TestHmacKeyReturnsNewMemory(t *testing.T) {
	key := sampleText(impl.BlockSize)
	got := impl.HmacKey(key)
	if unsafe.StringData(got) == unsafe.StringData(key) {
		t.Error("HmacKey of a whole block shares memory with its argument")
	}
}

// A key is filled up with zero bytes to a block, so that up to a block zero bytes at its end change nothing.
func TestKeysThatEndInZeroBytes(t *testing.T) {
	zeros := strings.Repeat("\x00", 2*impl.BlockSize)
	for _, key := range []string{"", "Jefe", "\x00k", sampleText(impl.BlockSize - 1)} {
		want := libraryMark(key, "text")
		for many := range impl.BlockSize - len(key) + 1 {
			wantMark(t, key+zeros[:many], "text", want)
		}
		// Above a block the zero bytes are part of what is hashed.
		for many := impl.BlockSize - len(key) + 1; many <= impl.BlockSize+1; many++ {
			wantNoMark(t, key+zeros[:many], "text", want)
			wantMark(t, key+zeros[:many], "text", libraryMark(key+zeros[:many], "text"))
		}
		wantNoMark(t, "\x00"+key+"k", "text", libraryMark(key+"k", "text"))
	}
	full := sampleText(impl.BlockSize)
	wantNoMark(t, full+"\x00", "text", libraryMark(full, "text"))
	wantNoMark(t, full, "text", libraryMark(full+"\x00", "text"))
}

func TestKeysLongerThanABlockAreTheirDigest(t *testing.T) {
	for _, size := range []int{65, 66, 127, 128, 129, 1000} {
		key := sampleText(size)
		digest := sha256.Sum256([]byte(key))
		wantMark(t, key, "text", libraryMark(string(digest[:]), "text"))
		wantMark(t, string(digest[:]), "text", libraryMark(key, "text"))
		wantNoMark(t, key[:impl.BlockSize], "text", libraryMark(key, "text"))
		wantNoMark(t, key[size-impl.BlockSize:], "text", libraryMark(key, "text"))
	}
	full := sampleText(impl.BlockSize)
	digest := sha256.Sum256([]byte(full))
	wantNoMark(t, string(digest[:]), "text", libraryMark(full, "text"))
}

func TestCodesThatDifferInOneBit(t *testing.T) {
	for _, key := range []string{"", "Jefe", sampleText(64), sampleText(65)} {
		mark := libraryMark(key, "text")
		for bit := range 8 * len(mark) {
			wantNoMark(t, key, "text", bitChanged(mark, bit))
		}
	}
}

func TestCodesThatAreTooShortOrTooLong(t *testing.T) {
	for _, text := range []string{"", "text", sampleText(100)} {
		mark := libraryMark("Jefe", text)
		for size := range len(mark) {
			wantNoMark(t, "Jefe", text, mark[:size])
			wantNoMark(t, "Jefe", text, mark[size+1:])
		}
		for _, tag := range []string{
			mark + "\x00", "\x00" + mark, mark + mark[:1], mark + mark, mark[:31] + "\x00",
			mark + strings.Repeat("\x00", 256), hex.EncodeToString([]byte(mark)), strings.Repeat("\x00", 32),
		} {
			wantNoMark(t, "Jefe", text, tag)
		}
	}
}

func TestCodesOfAnotherKey(t *testing.T) {
	for _, size := range []int{1, 4, 63, 64, 65, 130} {
		key := sampleText(size)
		mark := libraryMark(key, "text")
		for bit := range 8 * size {
			wantNoMark(t, bitChanged(key, bit), "text", mark)
		}
		wantNoMark(t, "", "text", mark)
		wantNoMark(t, key+"k", "text", mark)
		wantNoMark(t, "k"+key, "text", mark)
		wantNoMark(t, key[1:], "text", mark)
		wantNoMark(t, key+key, "text", mark)
	}
}

func TestCodesOfAnotherText(t *testing.T) {
	for _, size := range []int{1, 28, 55, 56, 63, 64, 65, 130} {
		text := sampleText(size)
		mark := libraryMark("Jefe", text)
		for bit := range 8 * size {
			wantNoMark(t, "Jefe", bitChanged(text, bit), mark)
		}
		wantNoMark(t, "Jefe", "\x00"+text, mark)
		wantNoMark(t, "Jefe", text[1:], mark)
	}
	wantNoMark(t, "text", "Jefe", libraryMark("Jefe", "text"))
	// Bytes must not pass from the key to the text.
	wantNoMark(t, "Jef", "etext", libraryMark("Jefe", "text"))
	wantNoMark(t, "Jefet", "ext", libraryMark("Jefe", "text"))
	wantNoMark(t, "", "Jefetext", libraryMark("Jefe", "text"))
	wantNoMark(t, "Jefetext", "", libraryMark("Jefe", "text"))
}

// A text must not have the code of its beginning, whether that is padded or not.
func TestTextsThatBeginWithEachOther(t *testing.T) {
	long := sampleText(2*impl.BlockSize + 2)
	marks := map[string]int{}
	for size := range len(long) + 1 {
		mark := impl.Hmac("Jefe", long[:size])
		if other, ok := marks[mark]; ok {
			t.Errorf("the first %d and the first %d bytes have the same code", other, size)
		}
		marks[mark] = size
		if size < len(long) {
			wantNoMark(t, "Jefe", long, mark)
			wantNoMark(t, "Jefe", long[:size], libraryMark("Jefe", long))
		}
		wantNoMark(t, "Jefe", long[:size]+"\x00", mark)
		wantNoMark(t, "Jefe", impl.PadText(long[:size]), mark)
	}
}

func TestCodesOfManyKeysAndTextsAreTheirOwn(t *testing.T) {
	keys := []string{"", "a", "b", "ab", "ba", "\x00a", "abcdefgh", "abcdefgi", sampleText(63), sampleText(64), sampleText(65), sampleText(66)}
	texts := []string{"", "a", "b", "ab", "\x00", "\x00\x00", sampleText(63), sampleText(64), sampleText(65), sampleText(128)}
	for i, key := range keys {
		for j, text := range texts {
			mark := impl.Hmac(key, text)
			for k, otherKey := range keys {
				for l, otherText := range texts {
					if got := impl.HmacOk(otherKey, otherText, mark); got != (i == k && j == l) {
						t.Errorf("the code of key %d and text %d: HmacOk of key %d and text %d is %v", i, j, k, l, got)
					}
				}
			}
		}
	}
}

func TestCutMark(t *testing.T) {
	for _, key := range []string{"", "Jefe", sampleText(64), sampleText(65)} {
		for _, text := range []string{"", "what do ya want for nothing?", sampleText(100)} {
			whole := libraryMark(key, text)
			for w := 1; w <= impl.DigestSize; w++ {
				if got := impl.CutMark(key, text, w); got != whole[:w] {
					t.Errorf("CutMark of %d and %d bytes, %d = %x; want %x", len(key), len(text), w, got, whole[:w])
				}
			}
			for _, w := range []int{math.MinInt, -32, -1, 0, impl.DigestSize + 1, impl.BlockSize, 1 << 32, 1<<32 + 1, math.MaxInt} {
				if got := impl.CutMark(key, text, w); got != "" {
					t.Errorf("CutMark of %d and %d bytes, %d = %x; want nothing", len(key), len(text), w, got)
				}
			}
		}
	}
}

func TestCutMarkOfAPublishedValue(t *testing.T) {
	// The fifth case of RFC 4231.
	const want = "\xa3\xb6\x16\x74\x73\x10\x0e\xe0\x6e\x0c\x79\x6c\x29\x55\x55\x2b"
	if got := impl.CutMark(strings.Repeat("\x0c", 20), "Test With Truncation", 16); got != want {
		t.Errorf("CutMark = %x; want %x", got, want)
	}
}

// A cut code is not a code: HmacOk takes whole ones only.
func TestCutCodesAreNotAccepted(t *testing.T) {
	for w := range impl.DigestSize + 2 {
		got := impl.HmacOk("Jefe", "text", impl.CutMark("Jefe", "text", w))
		if want := w == impl.DigestSize; got != want {
			t.Errorf("HmacOk of the first %d bytes is %v", w, got)
		}
	}
}

func TestSameBytes(t *testing.T) {
	wantSame(t, "", "", true)
	wantSame(t, "a", "a", true)
	wantSame(t, "\x00", "\x00", true)
	wantSame(t, everyByte(), everyByte(), true)
	wantSame(t, sampleText(100000), sampleText(100000), true)
	// the one begins or ends with the other
	wantSame(t, "", "a", false)
	wantSame(t, "", "\x00", false)
	wantSame(t, "\x00", "\x00\x00", false)
	wantSame(t, "ab", "a", false)
	wantSame(t, "ab", "b", false)
	wantSame(t, "ab", "ab\x00", false)
	wantSame(t, "ab", "abab", false)
	wantSame(t, "ab", "ab"+strings.Repeat("\x00", 256), false)
	// the same bytes at other indexes
	wantSame(t, "ab", "ba", false)
	wantSame(t, "aab", "aba", false)
	// differences whose sum or exclusive or is 0
	wantSame(t, "aa", "bb", false)
	wantSame(t, "\x00\x00", "\x01\xff", false)
	wantSame(t, "\x01\xff", "\x02\xfe", false)
	wantSame(t, "\x00\x00", "\x80\x80", false)
	wantSame(t, strings.Repeat("\x00", 256), strings.Repeat("\x01", 256), false)
	wantSame(t, "A", "a", false)
	wantSame(t, "\x7f", "\xff", false)
}

func TestSameBytesOfEveryPairOfBytes(t *testing.T) {
	all := everyByte()
	for i := range len(all) {
		for j := range len(all) {
			wantSame(t, all[i:i+1], all[j:j+1], i == j)
		}
	}
}

func TestSameBytesOfTextsThatDifferInOneBit(t *testing.T) {
	text := sampleText(33)
	for bit := range 8 * len(text) {
		wantSame(t, text, bitChanged(text, bit), false)
	}
}
