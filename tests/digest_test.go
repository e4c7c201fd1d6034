package tests

import (
	"bytes"
	"crypto/sha256"
	"encoding"
	"encoding/binary"
	"math"
	"slices"
	"strings"
	"testing"

	"loop.example/g00967/impl"
)

const maxWord = 1<<32 - 1

// sampleText returns size bytes that differ from place to place.
func sampleText(size int) string {
	text := make([]byte, size)
	for i := range text {
		text[i] = byte(i*i*7 + i*31 + i>>8 + 5)
	}
	return string(text)
}

// sampleState returns eight words of 32 bits that depend on seed.
func sampleState(seed int) []int {
	state := make([]int, 8)
	word := uint32(seed)
	for i := range state {
		word = word*1664525 + 1013904223
		state[i] = int(word)
	}
	return state
}

// libraryBlock is ShaBlock of a valid state and block, computed by the standard library.
func libraryBlock(t *testing.T, state []int, block string) []int {
	t.Helper()
	saved := []byte("sha\x03")
	for _, word := range state {
		saved = binary.BigEndian.AppendUint32(saved, uint32(word))
	}
	saved = append(saved, make([]byte, 64+8)...)
	hash := sha256.New()
	if err := hash.(encoding.BinaryUnmarshaler).UnmarshalBinary(saved); err != nil {
		t.Fatal(err)
	}
	hash.Write([]byte(block))
	saved, err := hash.(encoding.BinaryMarshaler).MarshalBinary()
	if err != nil {
		t.Fatal(err)
	}
	after := make([]int, 8)
	for i := range after {
		after[i] = int(binary.BigEndian.Uint32(saved[4+4*i:]))
	}
	return after
}

// wantBlock checks ShaBlock of a valid state and block, and that it leaves the state alone.
func wantBlock(t *testing.T, state []int, block string) {
	t.Helper()
	given := slices.Clone(state)
	want := libraryBlock(t, state, block)
	if got := impl.ShaBlock(state, block); !slices.Equal(got, want) {
		t.Errorf("ShaBlock(%d, %.20q..) = %d; want %d", given, block, got, want)
	}
	if !slices.Equal(state, given) {
		t.Errorf("ShaBlock changed its argument from %d to %d", given, state)
	}
}

// wantUnchanged checks that ShaBlock returns a copy of a state that it does not accept, or whose block it does not accept.
func wantUnchanged(t *testing.T, state []int, block string) {
	t.Helper()
	given := slices.Clone(state)
	got := impl.ShaBlock(state, block)
	if !slices.Equal(got, given) {
		t.Errorf("ShaBlock(%d, %d bytes) = %d; want the state unchanged", given, len(block), got)
	}
	for i := range got {
		got[i]++
	}
	if !slices.Equal(state, given) {
		t.Errorf("ShaBlock(%d, %d bytes) changed its argument or shares its memory", given, len(block))
	}
}

func TestDigestSizes(t *testing.T) {
	if impl.DigestSize != 32 || impl.BlockSize != 64 {
		t.Error("the sizes differ from the specification")
	}
}

func TestDigestHexOfPublishedValues(t *testing.T) {
	// The messages and digests are those of FIPS 180-2 and of the NIST test vectors.
	for _, known := range []struct{ text, digits string }{
		{"", "e3b0c44298fc1c149afbf4c8996fb92427ae41e4649b934ca495991b7852b855"},
		{"abc", "ba7816bf8f01cfea414140de5dae2223b00361a396177a9cb410ff61f20015ad"},
		{"abcdbcdecdefdefgefghfghighijhijkijkljklmklmnlmnomnopnopq", "248d6a61d20638b8e5c026930c3e6039a33ce45964ff2167f6ecedd419db06c1"},
		{"abcdefghbcdefghicdefghijdefghijkefghijklfghijklmghijklmnhijklmnoijklmnopjklmnopqklmnopqrlmnopqrsmnopqrstnopqrstu", "cf5b16a778af8380036ce59e7b0492370b249b11e8f07a51afac45037afee9d1"},
		{"\xbd", "68325720aabd7c82f30f554b313d0570c95accbb7dc4b5aae11204c08ffe732b"},
		{"\xc9\x8c\x8e\x55", "7abc22c0ae5af26ce93dbb94433a0e0b2e119d014f8e7f65bd56c61ccccd9504"},
		{strings.Repeat("\x00", 55), "02779466cdec163811d078815c633f21901413081449002f24aa3e80f0b88ef7"},
		{strings.Repeat("\x00", 56), "d4817aa5497628e7c77e6b606107042bbba3130888c5f47a375e6179be789fbb"},
		{strings.Repeat("\x00", 57), "65a16cb7861335d5ace3c60718b5052e44660726da4cd13bb745381b235a1785"},
		{strings.Repeat("\x00", 64), "f5a5fd42d16a20302798ef6ed309979b43003d2320d9f0e8ea9831a92759fb4b"},
		{strings.Repeat("\x00", 1000), "541b3e9daa09b20bf85fa273e5cbd3e80185aa4ec298e765db87742b70138a53"},
		{strings.Repeat("A", 1000), "c2e686823489ced2017f6059b8b239318b6364f6dcd835d0a519105a1eadd6e4"},
		{strings.Repeat("U", 1005), "f4d62ddec0f3dd90ea1380fa16a5ff8dc4c54b21740650f24afc4120903552b0"},
		{strings.Repeat("a", 1000000), "cdc76e5c9914fb9281a1c7e284d73e67f1809a48a497200e046d39ccc7112cd0"},
	} {
		if got := impl.DigestHex(known.text); got != known.digits {
			t.Errorf("DigestHex(%.20q, %d bytes) = %q; want %q", known.text, len(known.text), got, known.digits)
		}
	}
}

func TestDigestOfEveryLengthUpToFiveBlocks(t *testing.T) {
	all := sampleText(5*impl.BlockSize + 1)
	for size := range len(all) + 1 {
		text := all[:size]
		want := sha256.Sum256([]byte(text))
		if got := impl.Digest(text); got != string(want[:]) {
			t.Errorf("Digest of %d bytes = %x; want %x", size, got, want)
		}
	}
}

func TestDigestOfLongTexts(t *testing.T) {
	// 8192 bytes are 2^16 bits and 2097152 bytes are 2^24, so that each byte of the length is counted over.
	for _, size := range []int{8191, 8192, 8193, impl.MaxText, impl.MaxText + 1, 2097151, 2097152} {
		text := sampleText(size)
		want := sha256.Sum256([]byte(text))
		if got := impl.Digest(text); got != string(want[:]) {
			t.Errorf("Digest of %d bytes = %x; want %x", size, got, want)
		}
	}
}

func TestDigestOfSingleBytes(t *testing.T) {
	all := everyByte()
	for i := range len(all) {
		want := sha256.Sum256([]byte(all[i : i+1]))
		if got := impl.Digest(all[i : i+1]); got != string(want[:]) {
			t.Errorf("Digest(%q) = %x; want %x", all[i:i+1], got, want)
		}
	}
}

func TestDigestIsTheChainOfBlocks(t *testing.T) {
	for _, size := range []int{0, 55, 56, 63, 64, 65, 119, 120, 128, 300} {
		text := sampleText(size)
		padded := impl.PadText(text)
		state := impl.ShaStart()
		for ; len(padded) >= impl.BlockSize; padded = padded[impl.BlockSize:] {
			state = impl.ShaBlock(state, padded[:impl.BlockSize])
		}
		var want []byte
		for _, word := range state {
			want = binary.BigEndian.AppendUint32(want, uint32(word))
		}
		if got := impl.Digest(text); got != string(want) {
			t.Errorf("Digest of %d bytes = %x; the blocks lead to %x", size, got, want)
		}
	}
}

func TestDigestHexIsTheHexOfDigest(t *testing.T) {
	for _, text := range []string{"", "a", "\x00", "\xff\xfe", sampleText(64), sampleText(impl.MaxText + 1)} {
		want, ok := impl.Hex(impl.Digest(text))
		if got := impl.DigestHex(text); !ok || got != want || len(got) != 2*impl.DigestSize {
			t.Errorf("DigestHex of %d bytes = %q; want %q", len(text), got, want)
		}
	}
}

func TestPadTextOfKnownTexts(t *testing.T) {
	zeros := strings.Repeat("\x00", impl.BlockSize)
	for _, known := range []struct{ text, padding string }{
		{"", "\x80" + zeros[:55] + zeros[:8]},
		{"abc", "\x80" + zeros[:52] + zeros[:7] + "\x18"},
		{strings.Repeat("x", 31), "\x80" + zeros[:24] + zeros[:7] + "\xf8"},
		{strings.Repeat("x", 32), "\x80" + zeros[:23] + zeros[:6] + "\x01\x00"},
		{strings.Repeat("x", 54), "\x80\x00" + zeros[:6] + "\x01\xb0"},
		{strings.Repeat("x", 55), "\x80" + zeros[:6] + "\x01\xb8"},
		{strings.Repeat("x", 56), "\x80" + zeros[:63] + zeros[:6] + "\x01\xc0"},
		{strings.Repeat("x", 57), "\x80" + zeros[:62] + zeros[:6] + "\x01\xc8"},
		{strings.Repeat("x", 63), "\x80" + zeros[:56] + zeros[:6] + "\x01\xf8"},
		{strings.Repeat("x", 64), "\x80" + zeros[:55] + zeros[:6] + "\x02\x00"},
		{strings.Repeat("x", 65), "\x80" + zeros[:54] + zeros[:6] + "\x02\x08"},
		{strings.Repeat("x", 119), "\x80" + zeros[:6] + "\x03\xb8"},
		{strings.Repeat("x", 120), "\x80" + zeros[:63] + zeros[:6] + "\x03\xc0"},
		{strings.Repeat("x", 8192), "\x80" + zeros[:55] + zeros[:5] + "\x01\x00\x00"},
		{strings.Repeat("x", 2097152), "\x80" + zeros[:55] + zeros[:4] + "\x01\x00\x00\x00"},
		{"\x80\x00", "\x80" + zeros[:53] + zeros[:7] + "\x10"},
	} {
		if got := impl.PadText(known.text); got != known.text+known.padding {
			t.Errorf("PadText of %d bytes has %d bytes and ends in %x; want %x", len(known.text), len(got), got[min(len(got), len(known.text)):], known.padding)
		}
	}
}

func TestPadTextOfEveryLengthUpToFourBlocks(t *testing.T) {
	all := sampleText(4*impl.BlockSize + 1)
	for size := range len(all) + 1 {
		want := append([]byte(all[:size]), 128)
		for len(want)%impl.BlockSize != impl.BlockSize-8 {
			want = append(want, 0)
		}
		want = binary.BigEndian.AppendUint64(want, uint64(8*size))
		if got := impl.PadText(all[:size]); got != string(want) {
			t.Errorf("PadText of %d bytes = %x; want %x", size, got, want)
		}
	}
}

func TestShaStart(t *testing.T) {
	want := []int{0x6a09e667, 0xbb67ae85, 0x3c6ef372, 0xa54ff53a, 0x510e527f, 0x9b05688c, 0x1f83d9ab, 0x5be0cd19}
	got := impl.ShaStart()
	if !slices.Equal(got, want) {
		t.Errorf("ShaStart() = %x; want %x", got, want)
	}
	for i := range got {
		got[i] = 0
	}
	if again := impl.ShaStart(); !slices.Equal(again, want) {
		t.Errorf("ShaStart() = %x after its result was changed; want %x", again, want)
	}
}

func TestShaBlockOfPublishedValues(t *testing.T) {
	// The states are those that FIPS 180-2 prints after each block of its two examples.
	first := impl.ShaBlock(impl.ShaStart(), impl.PadText("abc"))
	want := []int{0xba7816bf, 0x8f01cfea, 0x414140de, 0x5dae2223, 0xb00361a3, 0x96177a9c, 0xb410ff61, 0xf20015ad}
	if !slices.Equal(first, want) {
		t.Errorf("the block of \"abc\" leads to %x; want %x", first, want)
	}
	padded := impl.PadText("abcdbcdecdefdefgefghfghighijhijkijkljklmklmnlmnomnopnopq")
	if len(padded) != 2*impl.BlockSize {
		t.Fatalf("PadText of 56 bytes has %d bytes; want 128", len(padded))
	}
	middle := impl.ShaBlock(impl.ShaStart(), padded[:impl.BlockSize])
	want = []int{0x85e655d6, 0x417a1795, 0x3363376a, 0x624cde5c, 0x76e09589, 0xcac5f811, 0xcc4b32c1, 0xf20e533a}
	if !slices.Equal(middle, want) {
		t.Errorf("the first of two blocks leads to %x; want %x", middle, want)
	}
	last := impl.ShaBlock(middle, padded[impl.BlockSize:])
	want = []int{0x248d6a61, 0xd20638b8, 0xe5c02693, 0x0c3e6039, 0xa33ce459, 0x64ff2167, 0xf6ecedd4, 0x19db06c1}
	if !slices.Equal(last, want) {
		t.Errorf("the second of two blocks leads to %x; want %x", last, want)
	}
}

func TestShaBlockOfManyStatesAndBlocks(t *testing.T) {
	all := sampleText(200 * impl.BlockSize)
	for i := range 200 {
		wantBlock(t, sampleState(i), all[i*impl.BlockSize:(i+1)*impl.BlockSize])
	}
	for _, fill := range []string{"\x00", "\x7f", "\x80", "\xff"} {
		wantBlock(t, impl.ShaStart(), strings.Repeat(fill, impl.BlockSize))
	}
}

func TestShaBlockOfWordsAtTheirLimits(t *testing.T) {
	block := sampleText(impl.BlockSize)
	wantBlock(t, make([]int, 8), block)
	wantBlock(t, slices.Repeat([]int{maxWord}, 8), block)
	for i := range 8 {
		for _, word := range []int{0, 1, math.MaxInt32, math.MaxInt32 + 1, maxWord - 1, maxWord} {
			state := impl.ShaStart()
			state[i] = word
			wantBlock(t, state, block)
		}
	}
}

func TestShaBlockRejectsWords(t *testing.T) {
	block := sampleText(impl.BlockSize)
	for i := range 8 {
		for _, word := range []int{-1, math.MinInt32, -maxWord, math.MinInt, maxWord + 1, maxWord + 2, 1 << 40, math.MaxInt} {
			state := sampleState(i)
			state[i] = word
			wantUnchanged(t, state, block)
		}
	}
	wantUnchanged(t, slices.Repeat([]int{-1}, 8), block)
	wantUnchanged(t, slices.Repeat([]int{maxWord + 1}, 8), block)
}

func TestShaBlockRejectsOtherNumbersOfWords(t *testing.T) {
	block := sampleText(impl.BlockSize)
	many := append(sampleState(1), sampleState(2)...)
	for _, size := range []int{0, 1, 4, 7, 9, 16} {
		wantUnchanged(t, slices.Clone(many[:size]), block)
	}
	wantUnchanged(t, nil, block)
	wantUnchanged(t, nil, "")
	wantUnchanged(t, []int{-1, maxWord + 1}, block[1:])
}

func TestShaBlockRejectsOtherBlocks(t *testing.T) {
	text := sampleText(3 * impl.BlockSize)
	for _, size := range []int{0, 1, 55, 56, 63, 65, 127, 128, 192} {
		wantUnchanged(t, impl.ShaStart(), text[:size])
	}
}

func TestShaBlockLeavesSpareCapacityAlone(t *testing.T) {
	whole := append(sampleState(3), 11, 12, 13)
	given := slices.Clone(whole)
	for _, block := range []string{sampleText(impl.BlockSize), "short"} {
		for _, size := range []int{0, 7, 8, 9} {
			got := impl.ShaBlock(whole[:size], block)
			_ = append(got, 21, 22, 23)
			for i := range got {
				got[i]++
			}
			if !slices.Equal(whole, given) {
				t.Fatalf("ShaBlock of %d words and %d bytes shares memory with its argument", size, len(block))
			}
		}
	}
}

func TestCutDigest(t *testing.T) {
	for _, text := range []string{"", "abc", sampleText(64), sampleText(100)} {
		whole := sha256.Sum256([]byte(text))
		for w := 1; w <= impl.DigestSize; w++ {
			if got := impl.CutDigest(text, w); !bytes.Equal([]byte(got), whole[:w]) {
				t.Errorf("CutDigest of %d bytes, %d = %x; want %x", len(text), w, got, whole[:w])
			}
		}
		for _, w := range []int{math.MinInt, -32, -1, 0, impl.DigestSize + 1, impl.BlockSize, math.MaxInt} {
			if got := impl.CutDigest(text, w); got != "" {
				t.Errorf("CutDigest of %d bytes, %d = %x; want nothing", len(text), w, got)
			}
		}
	}
}
