package tests

import (
	"math"
	"math/rand"
	"reflect"
	"slices"
	"strings"
	"testing"

	"loop.example/g00967/impl"
)

// segNumber is a number of a segment, with the offset and the number of its bytes and the largest value.
type segNumber struct {
	name string
	at   int
	size int
	most int
}

// segNumbers are the numbers of a segment in the order of their bytes.
func segNumbers() []segNumber {
	return []segNumber{
		{"From", 0, 4, 4294967295}, {"To", 4, 4, 4294967295},
		{"Port", 8, 2, 65535}, {"Peer", 10, 2, 65535},
		{"Seq", 12, 4, 4294967295}, {"Ack", 16, 4, 4294967295},
		{"Flags", 20, 1, 15},
	}
}

// The offsets of the number of options and of the first one.
const (
	countAt  = 21
	optsFrom = 22
)

// knownSeg is a segment and its bytes, as the document states them.
type knownSeg struct {
	x    impl.Seg
	text string
}

// plainHead are the bytes of the numbers of plainSeg.
const plainHead = "\x01\x02\x03\x04\x05\x06\x07\x08\x09\x0a\x0b\x0c\x0d\x0e\x0f\x10\x11\x12\x13\x14\x05"

// plainSeg returns a segment whose numbers all have other bytes.
func plainSeg(data string, opts ...impl.Opt) impl.Seg {
	return impl.Seg{
		From: 0x01020304, To: 0x05060708, Port: 0x090a, Peer: 0x0b0c, Seq: 0x0d0e0f10, Ack: 0x11121314,
		Flags: 5, Opts: opts, Data: data,
	}
}

// knownSegs has ordinary segments, and the smallest and the largest ones.
func knownSegs() []knownSeg {
	ones, zeros := strings.Repeat("\xff", 120), strings.Repeat("\x00", 24)
	done := impl.Opt{Kind: impl.OpDone, Mark: ones[:20]}
	return []knownSeg{
		{impl.Seg{}, zeros},
		{plainSeg(""), plainHead + "\x00\x00\x00"},
		{plainSeg("abc"), plainHead + "\x00\x00\x03abc"},
		{plainSeg("abc", impl.Opt{Kind: impl.OpFail, Seq: 9}), plainHead + "\x01\x09\x06\x00\x00\x00\x00\x00\x09\x00\x03abc"},
		{
			impl.Seg{From: 1, To: 2, Port: 3, Peer: 4, Seq: 5, Ack: 6, Flags: impl.FlSyn, Opts: []impl.Opt{{Kind: impl.OpCapable, Key: "12345678"}}},
			"\x00\x00\x00\x01\x00\x00\x00\x02\x00\x03\x00\x04\x00\x00\x00\x05\x00\x00\x00\x06\x01\x01\x01\x0812345678\x00\x00",
		},
		{
			plainSeg("piece", impl.Opt{Kind: impl.OpData, Ack: 1, Seq: 2, Sub: 3, Len: 5}, gone(1, 7)),
			plainHead + "\x02\x05\x12\x00\x00\x00\x00\x00\x01\x00\x00\x00\x00\x00\x02\x00\x00\x00\x03\x00\x05\x08\x02\x01\x07\x00\x05piece",
		},
		{
			plainSeg("\x00", gone(1, 7), gone(2, 8, 9), gone(3)),
			plainHead + "\x03\x08\x02\x01\x07\x08\x03\x02\x08\x09\x08\x01\x03\x00\x01\x00",
		},
		{
			impl.Seg{
				From: 4294967295, To: 4294967295, Port: 65535, Peer: 65535, Seq: 4294967295, Ack: 4294967295, Flags: 15,
				Opts: []impl.Opt{done, done, done, done}, Data: ones,
			},
			ones[:20] + "\x0f\x04" + strings.Repeat("\x04\x14"+ones[:20], 4) + "\x00\x78" + ones,
		},
	}
}

// withSeg returns x with another value in one field. The options are copied, so that the segments share none.
func withSeg(x impl.Seg, name string, value any) impl.Seg {
	reflect.ValueOf(&x).Elem().FieldByName(name).Set(reflect.ValueOf(value))
	x.Opts = copiedOpts(x.Opts)
	return x
}

// copiedOpts returns the options in new memory.
func copiedOpts(opts []impl.Opt) []impl.Opt {
	copied := make([]impl.Opt, len(opts))
	for i, o := range opts {
		copied[i] = with(o, "Kind", o.Kind)
	}
	return copied
}

// someOpts returns many known options, beginning with the one at from.
func someOpts(from int, many int) []impl.Opt {
	known := knownOpts()
	opts := make([]impl.Opt, many)
	for i := range opts {
		opts[i] = known[(from+i)%len(known)].o
	}
	return copiedOpts(opts)
}

// wantSameSeg checks that got is want in every field, and that SameSeg says so both ways.
func wantSameSeg(t *testing.T, got impl.Seg, want impl.Seg) {
	t.Helper()
	a, b := got, want
	a.Opts, b.Opts = nil, nil
	if !reflect.DeepEqual(a, b) || len(got.Opts) != len(want.Opts) {
		t.Fatalf("the segment is %+v; want %+v", got, want)
	}
	for i, o := range got.Opts {
		wantSameOpt(t, o, want.Opts[i])
	}
	if !impl.SameSeg(got, want) || !impl.SameSeg(want, got) {
		t.Errorf("SameSeg of %+v and %+v is false", got, want)
	}
}

func wantOtherSegs(t *testing.T, a impl.Seg, b impl.Seg) {
	t.Helper()
	if impl.SameSeg(a, b) || impl.SameSeg(b, a) {
		t.Errorf("SameSeg of %+v and %+v is true", a, b)
	}
}

func wantReadSeg(t *testing.T, s string, x impl.Seg) {
	t.Helper()
	got, ok := impl.ReadSeg(s)
	if !ok {
		t.Errorf("ReadSeg(%q) finds no segment; want %+v", s, x)
	}
	wantSameSeg(t, got, x)
}

func wantNoReadSeg(t *testing.T, s string) {
	t.Helper()
	got, ok := impl.ReadSeg(s)
	if ok {
		t.Errorf("ReadSeg(%.300q) finds a segment", s)
	}
	wantSameSeg(t, got, impl.Seg{})
}

// wantSeg checks a valid segment: its bytes, and that it can be decoded from them, but not with others around them.
func wantSeg(t *testing.T, x impl.Seg, text string) {
	t.Helper()
	if !impl.SegOk(x) {
		t.Errorf("SegOk(%+v) is false", x)
	}
	if got := impl.SegText(x); got != text {
		t.Errorf("SegText(%+v) = %q; want %q", x, got, text)
	}
	wantReadSeg(t, text, x)
	wantNoReadSeg(t, text+"z")
	wantNoReadSeg(t, text[:len(text)-1])
}

func wantNoSeg(t *testing.T, x impl.Seg) {
	t.Helper()
	if impl.SegOk(x) {
		t.Errorf("SegOk(%+v) is true", x)
	}
	if got := impl.SegText(x); got != "" {
		t.Errorf("SegText(%+v) = %q; want nothing", x, got)
	}
}

// numberIn returns a number of x by its name.
func numberIn(x impl.Seg, name string) int {
	return int(reflect.ValueOf(x).FieldByName(name).Int())
}

// tableSegOk is SegOk, from the table of the numbers.
func tableSegOk(x impl.Seg) bool {
	for _, f := range segNumbers() {
		if n := numberIn(x, f.name); n < 0 || n > f.most {
			return false
		}
	}
	return len(x.Opts) <= 4 && len(x.Data) <= 120 && !slices.ContainsFunc(x.Opts, func(o impl.Opt) bool { return !impl.OptOk(o) })
}

// tableSegText is SegText of a segment, valid or not, whose numbers and lengths fit into their bytes and whose options have known kinds.
func tableSegText(x impl.Seg) string {
	text := ""
	for _, f := range segNumbers() {
		text += libraryText(numberIn(x, f.name), f.size)
	}
	text += libraryText(len(x.Opts), 1)
	for _, o := range x.Opts {
		text += tableText(o)
	}
	return text + libraryText(len(x.Data), 2) + x.Data
}

// tableReadSeg is ReadSeg, from the table of the numbers. It reads strictly from the left and refuses at the first wrong byte.
func tableReadSeg(s string) (impl.Seg, bool) {
	x := impl.Seg{}
	if len(s) < optsFrom || s[countAt] > 4 {
		return impl.Seg{}, false
	}
	for _, f := range segNumbers() {
		value, _ := tableValue(f.name, s[f.at:f.at+f.size])
		if value.(int) > f.most {
			return impl.Seg{}, false
		}
		reflect.ValueOf(&x).Elem().FieldByName(f.name).Set(reflect.ValueOf(value))
	}
	at := optsFrom
	for range s[countAt] {
		o, after := tableRead(s, at)
		if after < 0 {
			return impl.Seg{}, false
		}
		x.Opts, at = append(x.Opts, o), after
	}
	if len(s) < at+2 || s[at] != 0 || s[at+1] > 120 || len(s) != at+2+int(s[at+1]) {
		return impl.Seg{}, false
	}
	x.Data = s[at+2:]
	return x, true
}

// wantTableReadSeg checks ReadSeg of any text, and that what is read has the bytes from which it was read.
func wantTableReadSeg(t *testing.T, s string) {
	t.Helper()
	x, ok := tableReadSeg(s)
	if !ok {
		wantNoReadSeg(t, s)
		return
	}
	wantReadSeg(t, s, x)
	if got, _ := impl.ReadSeg(s); impl.SegText(got) != s {
		t.Errorf("ReadSeg(%q) = %+v, whose SegText is %q", s, got, impl.SegText(got))
	}
}

// randomSeg returns a valid segment.
func randomSeg(r *rand.Rand) impl.Seg {
	data := make([]byte, r.Intn(121))
	r.Read(data)
	x := impl.Seg{Data: string(data)}
	for _, f := range segNumbers() {
		x = withSeg(x, f.name, r.Intn(f.most+1))
	}
	for range r.Intn(5) {
		x.Opts = append(x.Opts, randomOpt(r, 1+r.Intn(10)))
	}
	return x
}

// badOpts are options that are not valid, for several reasons.
func badOpts() []impl.Opt {
	return []impl.Opt{
		{}, {Kind: 11}, {Kind: -1}, {Kind: 256 + impl.OpFail}, {Kind: impl.OpGone}, gone(7, 1), gone(7, 7), gone(1, 2, 3, 4, 5, 6, 7, 8, 9), gone(256),
		{Kind: impl.OpCapable}, {Kind: impl.OpCapable, Key: "1234567"}, {Kind: impl.OpClose, Key: "123456789"}, {Kind: impl.OpDone, Mark: "abcdefgh"},
		{Kind: impl.OpFail, Seq: -1}, {Kind: impl.OpFail, Seq: 1 << 48}, {Kind: impl.OpFail, Id: 1}, {Kind: impl.OpEcho, Flag: true},
		{Kind: impl.OpEcho, Port: 65536}, {Kind: impl.OpData, Len: 65536}, {Kind: impl.OpJoin, Id: 256}, fullOpt(),
	}
}

func TestSegConstants(t *testing.T) {
	if impl.MaxOpts != 4 || impl.MaxData != 120 {
		t.Errorf("MaxOpts is %d and MaxData is %d", impl.MaxOpts, impl.MaxData)
	}
	if flags := []int{impl.FlSyn, impl.FlAck, impl.FlFin, impl.FlReset}; !slices.Equal(flags, []int{1, 2, 4, 8}) {
		t.Errorf("the flags are %v", flags)
	}
}

// Promise 7: ordinary segments, the smallest and the largest have the bytes that the document states, and are decoded from them.
func TestKnownSegments(t *testing.T) {
	for _, known := range knownSegs() {
		wantSeg(t, known.x, known.text)
	}
}

func TestManySegments(t *testing.T) {
	r := rand.New(rand.NewSource(7))
	for range 3000 {
		x := randomSeg(r)
		wantSeg(t, x, tableSegText(x))
	}
}

// Each number is set, at its limits and between them, in segments with and without options and data.
func TestNumbersOfSegmentsThatFit(t *testing.T) {
	for _, known := range knownSegs() {
		for _, f := range segNumbers() {
			for _, n := range append([]int{0, 1, f.most - 1, f.most}, numbersAround(f.size)...) {
				if n <= f.most {
					x := withSeg(known.x, f.name, n)
					wantSeg(t, x, known.text[:f.at]+libraryText(n, f.size)+known.text[f.at+f.size:])
				}
			}
		}
	}
}

// One above the limit, a negative number, or one whose lowest bytes are those of a valid one makes a segment invalid.
func TestNumbersOfSegmentsThatDoNotFit(t *testing.T) {
	for _, known := range knownSegs() {
		for _, f := range segNumbers() {
			numbers := []int{f.most + 1, f.most + 2, 2 * f.most, -1, -f.most, math.MaxInt, math.MinInt, math.MinInt + f.most}
			for _, n := range append(numbers, numbersOutside(f.size)...) {
				wantNoSeg(t, withSeg(known.x, f.name, n))
			}
		}
	}
}

func TestEveryFlags(t *testing.T) {
	for flags := -300; flags <= 600; flags++ {
		for _, known := range knownSegs() {
			x := withSeg(known.x, "Flags", flags)
			if flags >= 0 && flags <= 15 {
				wantSeg(t, x, known.text[:20]+everyByte()[flags:flags+1]+known.text[21:])
			} else {
				wantNoSeg(t, x)
			}
		}
	}
	for _, known := range knownSegs() {
		for flags := 16; flags < 256; flags++ {
			wantNoReadSeg(t, known.text[:20]+everyByte()[flags:flags+1]+known.text[21:])
		}
	}
}

// Each number has bytes of its own: with another one of the seven set, or to another value, the bytes differ.
func TestNumbersOfSegmentsHaveTheirPlaces(t *testing.T) {
	seen := map[string]string{}
	for _, f := range segNumbers() {
		for n := 1; n <= 2; n++ {
			x := withSeg(impl.Seg{}, f.name, n)
			text := strings.Repeat("\x00", f.at) + libraryText(n, f.size)
			wantSeg(t, x, text+strings.Repeat("\x00", 24-len(text)))
			noteCode(t, seen, impl.SegText(x), f.name, n)
		}
	}
}

// Segments have each number of options up to MaxOpts; one more, or a number whose lowest byte is a valid one, is too many.
func TestNumberOfOptions(t *testing.T) {
	for _, data := range []string{"", "abc", sampleText(120)} {
		for from := range knownOpts() {
			for many := range 5 {
				x := plainSeg(data, someOpts(from, many)...)
				wantSeg(t, x, tableSegText(x))
			}
			for many := 5; many <= 20; many++ {
				x := plainSeg(data, someOpts(from, many)...)
				wantNoSeg(t, x)
				wantNoReadSeg(t, tableSegText(x))
			}
		}
		for _, many := range []int{128, 255, 256, 257, 260, 512, 65536, 65540} {
			wantNoSeg(t, plainSeg(data, someOpts(0, many)...))
		}
		for many := 21; many <= 255; many++ {
			wantNoReadSeg(t, tableSegText(plainSeg(data, someOpts(0, many)...)))
		}
	}
}

// Options of every kind stand at every place, behind and before one of every kind.
func TestOptionsOfEveryKindInSegments(t *testing.T) {
	for _, one := range knownOpts() {
		wantSeg(t, plainSeg("", one.o), plainHead+"\x01"+one.text+"\x00\x00")
		wantSeg(t, plainSeg("xyz", one.o, one.o, one.o, one.o), plainHead+"\x04"+one.text+one.text+one.text+one.text+"\x00\x03xyz")
		for _, two := range knownOpts() {
			wantSeg(t, plainSeg("xyz", one.o, two.o), plainHead+"\x02"+one.text+two.text+"\x00\x03xyz")
			wantSeg(t, plainSeg("", two.o, two.o, one.o, two.o), plainHead+"\x04"+two.text+two.text+one.text+two.text+"\x00\x00")
		}
	}
}

func TestInvalidOptionsAtEachPlace(t *testing.T) {
	for _, bad := range badOpts() {
		for many := 1; many <= 4; many++ {
			for place := range many {
				for from := range knownOpts() {
					x := plainSeg("abc", someOpts(from, many)...)
					wantSeg(t, x, tableSegText(x))
					x.Opts[place] = bad
					wantNoSeg(t, x)
				}
			}
		}
		wantNoSeg(t, plainSeg("", bad, bad, bad, bad))
	}
}

func TestDataOfEveryLength(t *testing.T) {
	for _, opts := range [][]impl.Opt{nil, someOpts(3, 1), someOpts(9, 4)} {
		head := plainHead + everyByte()[len(opts):len(opts)+1]
		for _, o := range opts {
			head += impl.OptText(o)
		}
		for size := range 121 {
			wantSeg(t, plainSeg(sampleText(size), opts...), head+"\x00"+everyByte()[size:size+1]+sampleText(size))
		}
		for _, size := range append(lengthsUpTo(400)[121:], 512, 65535, 65536, 65537, 65656, 131072) {
			wantNoSeg(t, plainSeg(sampleText(size), opts...))
			if size <= 65535 {
				wantNoReadSeg(t, head+libraryText(size, 2)+sampleText(size))
			}
		}
	}
}

func TestDataOfEveryByte(t *testing.T) {
	for b := range 256 {
		for _, size := range []int{1, 2, 120} {
			data := strings.Repeat(everyByte()[b:b+1], size)
			wantSeg(t, plainSeg(data), plainHead+"\x00\x00"+everyByte()[size:size+1]+data)
		}
	}
	// Data that looks like a segment or an option is data.
	inner := impl.SegText(plainSeg("abc", gone(1, 7)))
	wantSeg(t, plainSeg(inner), plainHead+"\x00\x00"+everyByte()[len(inner):len(inner)+1]+inner)
}

func TestReadSegOfTextsThatEndTooEarly(t *testing.T) {
	for _, known := range knownSegs() {
		for size := range known.text {
			wantNoReadSeg(t, known.text[:size])
		}
	}
	for from := range knownOpts() {
		text := tableSegText(plainSeg("abc", someOpts(from, 4)...))
		for size := range text {
			wantNoReadSeg(t, text[:size])
		}
	}
	wantNoReadSeg(t, "")
}

func TestReadSegOfBytesAfterTheEnd(t *testing.T) {
	segs := knownSegs()
	for from := range knownOpts() {
		x := plainSeg("abc", someOpts(from, 1+from%4)...)
		segs = append(segs, knownSeg{x, tableSegText(x)})
	}
	for _, known := range segs {
		for b := range 256 {
			wantNoReadSeg(t, known.text+everyByte()[b:b+1])
			wantNoReadSeg(t, known.text+strings.Repeat(everyByte()[b:b+1], 120))
		}
		for _, other := range segs {
			wantNoReadSeg(t, known.text+other.text)
		}
		wantNoReadSeg(t, known.text+"\x00\x00")
		wantNoReadSeg(t, known.text+strings.Repeat("\x00", 65536))
		wantReadSeg(t, known.text, known.x)
	}
}

// A byte before the beginning, or a missing first one, moves all others.
func TestReadSegOfTextsThatAreMoved(t *testing.T) {
	for _, known := range knownSegs() {
		for b := range 256 {
			wantTableReadSeg(t, everyByte()[b:b+1]+known.text)
		}
		for at := range known.text {
			wantTableReadSeg(t, known.text[at:])
			wantTableReadSeg(t, known.text[:at]+known.text[at+1:])
			wantTableReadSeg(t, known.text[:at]+"\x00"+known.text[at:])
		}
	}
}

// With another number of options no segment has its bytes: what follows the options begins with a byte that is no kind.
func TestReadSegOfEveryCount(t *testing.T) {
	for _, data := range []string{"", "abc", "\x00\x00", sampleText(120)} {
		for many := range 5 {
			for from := range knownOpts() {
				x := plainSeg(data, someOpts(from, many)...)
				text := tableSegText(x)
				wantReadSeg(t, text, x)
				for count := range 256 {
					if count != many {
						wantNoReadSeg(t, text[:countAt]+everyByte()[count:count+1]+text[optsFrom:])
					}
				}
			}
		}
	}
}

// With another length of the data no segment has its bytes, whether the data is too short or too long for it.
func TestReadSegOfEveryLengthOfData(t *testing.T) {
	for _, x := range []impl.Seg{plainSeg(""), plainSeg("abc"), plainSeg("abc", gone(1, 7)), plainSeg(sampleText(120), someOpts(2, 4)...)} {
		head := tableSegText(withSeg(x, "Data", ""))
		head = head[:len(head)-2]
		for size := range 65536 {
			text := head + libraryText(size, 2) + x.Data
			if size == len(x.Data) {
				wantReadSeg(t, text, x)
			} else {
				wantNoReadSeg(t, text)
			}
		}
	}
}

// badOptTexts are bytes from which no valid option can be decoded, with counts that lead to the byte after them.
func badOptTexts() []string {
	return []string{
		"\x00\x00", "\x0b\x00", "\x0b\x01\x07", "\xff\x00", "\x01\x00", "\x08\x00", "\x08\x02\x07\x01", "\x08\x02\x07\x07",
		"\x08\x09\x01\x02\x03\x04\x05\x06\x07\x08\x09", "\x01\x071234567", "\x01\x09123456789", "\x09\x05\x00\x00\x00\x00\x09",
		"\x09\x07\x00\x00\x00\x00\x00\x00\x09", "\x02\x0a\x03\x02\x01\x02\x03\x04\x05\x06\x07\x08", "\x03\x0e\x04\xffabcdefgh\x09\x0a\x0b\x0c", "\x07\x00",
	}
}

func TestReadSegOfInvalidOptionsInsideTheText(t *testing.T) {
	for _, bad := range badOptTexts() {
		for many := 1; many <= 4; many++ {
			for place := range many {
				for from := range knownOpts() {
					text := plainHead + everyByte()[many:many+1]
					for i, o := range someOpts(from, many) {
						if i == place {
							text += bad
						} else {
							text += impl.OptText(o)
						}
					}
					wantNoReadSeg(t, text+"\x00\x00")
					wantNoReadSeg(t, text+"\x00\x03abc")
				}
			}
		}
	}
}

// Each byte of each segment is changed to each other one.
func TestReadSegOfChangedBytes(t *testing.T) {
	read := 0
	for _, known := range knownSegs() {
		for at := range known.text {
			for b := range 256 {
				text := known.text[:at] + everyByte()[b:b+1] + known.text[at+1:]
				wantTableReadSeg(t, text)
				if _, ok := tableReadSeg(text); ok {
					read++
				}
			}
		}
	}
	if read < 10000 {
		t.Errorf("only %d segments were read", read)
	}
}

func TestReadSegOfAnyBytes(t *testing.T) {
	r := rand.New(rand.NewSource(700))
	read := 0
	for range 30000 {
		s := anySegText(r)
		wantTableReadSeg(t, s)
		if _, ok := tableReadSeg(s); ok {
			read++
		}
	}
	if read < 1000 {
		t.Errorf("only %d segments were read", read)
	}
}

// anySegText returns bytes that often begin like a segment.
func anySegText(r *rand.Rand) string {
	head := make([]byte, 20)
	r.Read(head)
	many := r.Intn(6)
	text := string(head) + libraryText(r.Intn(18), 1) + libraryText(many, 1)
	for range many {
		text += tableText(randomOpt(r, 1+r.Intn(10)))
	}
	size := r.Intn(130)
	text += libraryText(size, 2) + sampleText(size)
	switch r.Intn(4) {
	case 0:
		return text[:r.Intn(len(text)+1)]
	case 1:
		at := r.Intn(len(text))
		return text[:at] + libraryText(r.Intn(256), 1) + text[at+1:]
	}
	return text
}

// Segments with any numbers, options and data, valid or not, have bytes only if they are valid.
func TestAnySegments(t *testing.T) {
	r := rand.New(rand.NewSource(77))
	valid := 0
	for range 20000 {
		x := randomSeg(r)
		for range r.Intn(3) {
			x = spoiled(r, x)
		}
		if tableSegOk(x) {
			valid++
			wantSeg(t, x, tableSegText(x))
		} else {
			wantNoSeg(t, x)
		}
	}
	if valid < 1000 || valid > 19000 {
		t.Errorf("%d of 20000 segments were valid", valid)
	}
}

// spoiled changes one field of x, most often so that it is no longer valid.
func spoiled(r *rand.Rand, x impl.Seg) impl.Seg {
	switch r.Intn(4) {
	case 0:
		x.Opts = append(x.Opts, badOpts()[r.Intn(len(badOpts()))])
	case 1:
		x.Opts = someOpts(r.Intn(20), r.Intn(10))
	case 2:
		x.Data = sampleText(r.Intn(240))
	default:
		f := segNumbers()[r.Intn(7)]
		x = withSeg(x, f.name, r.Intn(3*f.most)-f.most)
	}
	return x
}

// No two different segments have the same bytes, and none has bytes with which those of another one begin.
func TestTextsOfOtherSegmentsDiffer(t *testing.T) {
	segs := knownSegs()
	for from := range knownOpts() {
		x := plainSeg("abc", someOpts(from, 1+from%4)...)
		segs = append(segs, knownSeg{x, tableSegText(x)})
	}
	for i, one := range segs {
		for j, two := range segs {
			if i != j && strings.HasPrefix(impl.SegText(one.x), impl.SegText(two.x)) {
				t.Errorf("the bytes of %+v begin with those of %+v", one.x, two.x)
			}
		}
	}
}

// wantFirstOpt checks that FirstOpt finds the option.
func wantFirstOpt(t *testing.T, x impl.Seg, kind int, want impl.Opt) {
	t.Helper()
	got, ok := impl.FirstOpt(x, kind)
	if !ok {
		t.Errorf("FirstOpt(%+v, %d) finds nothing", x, kind)
	}
	wantSameOpt(t, got, want)
}

func wantNoFirstOpt(t *testing.T, x impl.Seg, kind int) {
	t.Helper()
	got, ok := impl.FirstOpt(x, kind)
	if ok {
		t.Errorf("FirstOpt(%+v, %d) finds %+v", x, kind, got)
	}
	wantSameOpt(t, got, impl.Opt{})
}

func TestFirstOptOfNoneOfTheKind(t *testing.T) {
	others := []int{0, 11, 255, 256, 257, 266, 1 << 32, 1<<32 + 1, math.MaxInt, -1, -2, -10, -256, -255, math.MinInt, math.MinInt + 1}
	for kind := -20; kind <= 300; kind++ {
		wantNoFirstOpt(t, impl.Seg{}, kind)
		wantNoFirstOpt(t, plainSeg("\x01\x0812345678"), kind)
		wantNoFirstOpt(t, impl.Seg{Opts: []impl.Opt{}}, kind)
	}
	for _, known := range knownOpts() {
		for kind := 1; kind <= 10; kind++ {
			if kind != known.o.Kind {
				wantNoFirstOpt(t, plainSeg("", known.o), kind)
				wantNoFirstOpt(t, plainSeg("", known.o, known.o, known.o, known.o), kind)
			}
		}
		for _, kind := range others {
			wantNoFirstOpt(t, plainSeg("", known.o, known.o), kind)
		}
	}
}

func TestFirstOptOfOneOfTheKind(t *testing.T) {
	for _, known := range knownOpts() {
		wantFirstOpt(t, plainSeg("", known.o), known.o.Kind, known.o)
		for place := range 4 {
			opts := []impl.Opt{{Kind: impl.OpFail, Seq: 1}, {Kind: impl.OpFail, Seq: 2}, {Kind: impl.OpFail, Seq: 3}, {Kind: impl.OpFail, Seq: 4}}
			if known.o.Kind == impl.OpFail {
				opts = []impl.Opt{gone(1), gone(2), gone(3), gone(4)}
			}
			opts[place] = known.o
			wantFirstOpt(t, plainSeg("", opts...), known.o.Kind, known.o)
		}
	}
}

// Of several options of the kind the first one is found, wherever it is, also if another one is equal or smaller.
func TestFirstOptOfSeveralOfTheKind(t *testing.T) {
	r := rand.New(rand.NewSource(70))
	for range 200 {
		for kind := 1; kind <= 10; kind++ {
			one, two, three := randomOpt(r, kind), randomOpt(r, kind), randomOpt(r, kind)
			other := randomOpt(r, 1+kind%10)
			wantFirstOpt(t, plainSeg("", one, two), kind, one)
			wantFirstOpt(t, plainSeg("", two, one), kind, two)
			wantFirstOpt(t, plainSeg("", other, one, two), kind, one)
			wantFirstOpt(t, plainSeg("", one, other, two, three), kind, one)
			wantFirstOpt(t, plainSeg("", three, one, two, other), kind, three)
			wantFirstOpt(t, plainSeg("", other, three, one, two), other.Kind, other)
		}
	}
	known := gone(1, 7)
	wantFirstOpt(t, plainSeg("", known, known), impl.OpGone, known)
}

// The options of a segment that is not valid are found too, the ones that are not valid among them.
func TestFirstOptOfInvalidSegments(t *testing.T) {
	for _, bad := range badOpts() {
		wantFirstOpt(t, plainSeg("", bad), bad.Kind, bad)
		wantFirstOpt(t, plainSeg("", bad, with(bad, "Addr", 5)), bad.Kind, bad)
	}
	many := plainSeg("", someOpts(0, 14)...)
	for kind := 1; kind <= 10; kind++ {
		at := slices.IndexFunc(many.Opts, func(o impl.Opt) bool { return o.Kind == kind })
		wantFirstOpt(t, many, kind, many.Opts[at])
	}
	for _, f := range segNumbers() {
		wantFirstOpt(t, withSeg(plainSeg("", gone(1, 7)), f.name, -1), impl.OpGone, gone(1, 7))
	}
	wantFirstOpt(t, plainSeg(sampleText(121), gone(1, 7)), impl.OpGone, gone(1, 7))
}

func TestFirstOptOfSegmentsThatWereRead(t *testing.T) {
	for _, known := range knownSegs() {
		x, _ := impl.ReadSeg(known.text)
		for kind := 1; kind <= 10; kind++ {
			at := slices.IndexFunc(known.x.Opts, func(o impl.Opt) bool { return o.Kind == kind })
			if at < 0 {
				wantNoFirstOpt(t, x, kind)
			} else {
				wantFirstOpt(t, x, kind, known.x.Opts[at])
			}
		}
	}
}

func TestSameSegOfEqualSegments(t *testing.T) {
	for _, known := range knownSegs() {
		wantSameSeg(t, known.x, withSeg(known.x, "Flags", known.x.Flags))
	}
	wantSameSeg(t, impl.Seg{Opts: []impl.Opt{}}, impl.Seg{})
	wantSameSeg(t, plainSeg("", impl.Opt{Kind: impl.OpFail, Ids: []int{}}), plainSeg("", impl.Opt{Kind: impl.OpFail}))
	// Segments that are not valid are compared too.
	for _, bad := range badOpts() {
		x := plainSeg(sampleText(200), bad, bad, bad, bad, bad, bad)
		x.From, x.Flags = -1, 16
		wantSameSeg(t, x, withSeg(x, "From", -1))
	}
}

// Two segments that differ in one field only are not the same.
func TestSameSegOfSegmentsThatDifferInOneField(t *testing.T) {
	for _, known := range knownSegs() {
		for _, f := range segNumbers() {
			n := numberIn(known.x, f.name)
			for _, other := range []int{n + 1, n - 1, n + 256, n + 65536, n + 1<<32, n - 1<<32, -n - 1, n ^ 1<<62, n ^ math.MinInt} {
				wantOtherSegs(t, known.x, withSeg(known.x, f.name, other))
			}
		}
		data := known.x.Data
		for _, other := range []string{data + "\x00", data + "z", "z" + data, data + data + "a"} {
			wantOtherSegs(t, known.x, withSeg(known.x, "Data", other))
		}
		for at := range data {
			changed := data[:at] + string([]byte{data[at] ^ 1}) + data[at+1:]
			wantOtherSegs(t, known.x, withSeg(known.x, "Data", changed))
			wantOtherSegs(t, known.x, withSeg(known.x, "Data", data[:at]))
		}
	}
}

func TestSameSegOfOtherOptions(t *testing.T) {
	for from := range knownOpts() {
		opts := someOpts(from, 4)
		x := plainSeg("abc", opts...)
		for many := range 4 {
			wantOtherSegs(t, x, plainSeg("abc", opts[:many]...))
			wantOtherSegs(t, x, plainSeg("abc", opts[many+1:]...))
		}
		wantOtherSegs(t, x, plainSeg("abc", append(copiedOpts(opts), impl.Opt{})...))
		for place := range 4 {
			for name, value := range map[string]any{"Kind": 99, "Id": 99, "Ack": 99, "Key": "other", "Mark": "other", "Ids": []int{1, 8}} {
				changed := copiedOpts(opts)
				changed[place] = with(changed[place], name, value)
				wantOtherSegs(t, x, plainSeg("abc", changed...))
			}
		}
		for place := range 3 {
			swapped := copiedOpts(opts)
			swapped[place], swapped[place+1] = swapped[place+1], swapped[place]
			wantOtherSegs(t, x, plainSeg("abc", swapped...))
		}
	}
	wantOtherSegs(t, impl.Seg{}, impl.Seg{Opts: []impl.Opt{{}}})
	// Lists that begin in the same memory are compared by their elements.
	opts := someOpts(0, 3)
	wantOtherSegs(t, plainSeg("", opts[:2]...), plainSeg("", opts[:3]...))
	wantSameSeg(t, plainSeg("", opts[:2:2]...), plainSeg("", opts[:2]...))
}

// The options of a segment that was read, and their Ids, belong to the caller alone: changing them changes no other result.
func TestReadSegReturnsNewOptions(t *testing.T) {
	want := plainSeg("abc", gone(1, 7), gone(2, 8, 9), impl.Opt{Kind: impl.OpClose, Key: "12345678"}, gone(3))
	s := tableSegText(want)
	first, _ := impl.ReadSeg(s)
	second, _ := impl.ReadSeg(s)
	for i, o := range first.Opts {
		for j, other := range first.Opts {
			if i != j && sharesElements(o.Ids, other.Ids) {
				t.Errorf("the options %d and %d share memory", i, j)
			}
		}
		for j := range o.Ids {
			o.Ids[j] = 99
		}
		_ = append(o.Ids, 98, 97)
	}
	for i := range first.Opts {
		first.Opts[i] = impl.Opt{Kind: 99}
	}
	_ = append(first.Opts, impl.Opt{Kind: 98})
	wantSameSeg(t, second, want)
	wantSeg(t, want, s)
}

// The Ids of an option that FirstOpt returned belong to the caller alone, and so do those of the segment.
func TestFirstOptReturnsNewIds(t *testing.T) {
	spare := []int{1, 7, 5, 6}
	x := plainSeg("", gone(3), impl.Opt{Kind: impl.OpGone + 100, Ids: spare[:2]})
	for _, kind := range []int{impl.OpGone, impl.OpGone + 100} {
		first, _ := impl.FirstOpt(x, kind)
		second, _ := impl.FirstOpt(x, kind)
		for _, o := range append([]impl.Opt{second}, x.Opts...) {
			if sharesElements(first.Ids, o.Ids) {
				t.Errorf("the option of kind %d shares memory with %+v", kind, o)
			}
		}
		first.Ids[0] = 99
		_ = append(first.Ids, 98, 97)
		wantFirstOpt(t, x, kind, second)
	}
	wantSameSeg(t, x, plainSeg("", gone(3), impl.Opt{Kind: impl.OpGone + 100, Ids: []int{1, 7}}))
	if !slices.Equal(spare, []int{1, 7, 5, 6}) {
		t.Errorf("the spare capacity was changed to %v", spare)
	}
	// An empty list with spare capacity is no part of the result either.
	empty, _ := impl.FirstOpt(plainSeg("", impl.Opt{Kind: impl.OpFail, Ids: spare[:0]}), impl.OpFail)
	_ = append(empty.Ids, 99)
	if sharesElements(empty.Ids, spare) || spare[0] != 1 {
		t.Errorf("the empty Ids share memory with those of the argument")
	}
	// After the caller has changed a segment, the option that was returned before is as it was.
	got, _ := impl.FirstOpt(x, impl.OpGone)
	x.Opts[0].Ids[0] = 4
	wantSameOpt(t, got, gone(3))
	wantFirstOpt(t, x, impl.OpGone, gone(4))
}

// No function changes the options of its argument or keeps them, nor the elements behind them.
func TestOptionsOfAnArgumentAreLeftAlone(t *testing.T) {
	for from := range knownOpts() {
		for _, last := range []impl.Opt{{}, gone(1, 7), gone(7, 1)} {
			opts := append(someOpts(from, 3), last, gone(5, 4))
			kept := copiedOpts(opts)
			x, other := plainSeg("abc", opts[:4]...), plainSeg("abc", copiedOpts(opts[:4])...)
			text, ok := impl.SegText(x), impl.SegOk(x)
			same := impl.SameSeg(x, other) && impl.SameSeg(other, x)
			for kind := range 12 {
				impl.FirstOpt(x, kind)
			}
			wantSameSeg(t, plainSeg("", opts...), plainSeg("", kept...))
			wantSameSeg(t, other, plainSeg("abc", kept[:4]...))
			if ok != (text != "") || ok != impl.OptOk(last) || !same {
				t.Errorf("the segment %+v: %v, %v, %q", x, ok, same, text)
			}
			// After the caller has changed them, the results are those of the new options.
			opts[3] = impl.Opt{Kind: impl.OpFail, Seq: 9}
			wantSeg(t, x, tableSegText(x))
			wantOtherSegs(t, x, other)
		}
	}
}

func TestSegmentsReturnNewMemory(t *testing.T) {
	for _, known := range append(knownSegs(), knownSeg{x: plainSeg(sampleText(120), someOpts(0, 4)...)}) {
		s := tableSegText(known.x)
		x, _ := impl.ReadSeg(s)
		texts := []string{x.Data}
		for _, o := range x.Opts {
			texts = append(texts, o.Key, o.Mark)
		}
		for i, text := range texts {
			if sharesMemory(text, s) {
				t.Errorf("ReadSeg(%q) shares memory with its argument", s)
			}
			for _, other := range texts[:i] {
				if sharesMemory(text, other) {
					t.Errorf("two parts of ReadSeg(%q) share memory", s)
				}
			}
		}
		if sharesMemory(impl.SegText(known.x), known.x.Data) {
			t.Errorf("SegText(%+v) shares memory with its argument", known.x)
		}
	}
	for _, known := range knownOpts() {
		o, _ := impl.FirstOpt(plainSeg("", known.o), known.o.Kind)
		if sharesMemory(o.Key, known.o.Key) || sharesMemory(o.Mark, known.o.Mark) {
			t.Errorf("FirstOpt of %+v shares memory with its argument", known.o)
		}
	}
}
