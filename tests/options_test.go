package tests

import (
	"math"
	"math/rand"
	"reflect"
	"slices"
	"strings"
	"testing"
	"unsafe"

	"loop.example/g00967/impl"
)

// optField is a field that a kind uses, with its number of bytes; that of Ids is 0, because it varies.
type optField struct {
	name string
	size int
}

// optLayouts are the fields that each kind uses, in the order of their bytes.
func optLayouts() map[int][]optField {
	return map[int][]optField{
		1:  {{"Key", 8}},
		2:  {{"Id", 1}, {"Flag", 1}, {"Token", 4}, {"Nonce", 4}},
		3:  {{"Id", 1}, {"Flag", 1}, {"Mark", 8}, {"Nonce", 4}},
		4:  {{"Mark", 20}},
		5:  {{"Ack", 6}, {"Seq", 6}, {"Sub", 4}, {"Len", 2}},
		6:  {{"Id", 1}, {"Addr", 4}, {"Port", 2}, {"Mark", 8}},
		7:  {{"Id", 1}, {"Addr", 4}, {"Port", 2}},
		8:  {{"Ids", 0}},
		9:  {{"Seq", 6}},
		10: {{"Key", 8}},
	}
}

// knownOpt is an option and its bytes, as the document states them.
type knownOpt struct {
	o    impl.Opt
	text string
}

// knownOpts has ordinary options of each of the ten kinds, in ascending order of the kinds.
func knownOpts() []knownOpt {
	return []knownOpt{
		{impl.Opt{Kind: 1, Key: "12345678"}, "\x01\x0812345678"},
		{impl.Opt{Kind: 2, Id: 3, Flag: true, Token: 0x01020304, Nonce: 0x05060708}, "\x02\x0a\x03\x01\x01\x02\x03\x04\x05\x06\x07\x08"},
		{impl.Opt{Kind: 2, Id: 3, Token: 0x01020304, Nonce: 0x05060708}, "\x02\x0a\x03\x00\x01\x02\x03\x04\x05\x06\x07\x08"},
		{impl.Opt{Kind: 3, Id: 4, Flag: true, Mark: "abcdefgh", Nonce: 0x090a0b0c}, "\x03\x0e\x04\x01abcdefgh\x09\x0a\x0b\x0c"},
		{impl.Opt{Kind: 3, Id: 4, Mark: "abcdefgh", Nonce: 0x090a0b0c}, "\x03\x0e\x04\x00abcdefgh\x09\x0a\x0b\x0c"},
		{impl.Opt{Kind: 4, Mark: "abcdefghijklmnopqrst"}, "\x04\x14abcdefghijklmnopqrst"},
		{
			impl.Opt{Kind: 5, Ack: 0x010203040506, Seq: 0x0708090a0b0c, Sub: 0x0d0e0f10, Len: 0x1112},
			"\x05\x12\x01\x02\x03\x04\x05\x06\x07\x08\x09\x0a\x0b\x0c\x0d\x0e\x0f\x10\x11\x12",
		},
		{impl.Opt{Kind: 6, Id: 5, Addr: 0x01020304, Port: 0x0506, Mark: "stuvwxyz"}, "\x06\x0f\x05\x01\x02\x03\x04\x05\x06stuvwxyz"},
		{impl.Opt{Kind: 7, Id: 6, Addr: 0x01020304, Port: 0x0506}, "\x07\x07\x06\x01\x02\x03\x04\x05\x06"},
		{impl.Opt{Kind: 8, Ids: []int{7}}, "\x08\x01\x07"},
		{impl.Opt{Kind: 8, Ids: []int{1, 7}}, "\x08\x02\x01\x07"},
		{impl.Opt{Kind: 8, Ids: []int{0, 1, 2, 3, 100, 128, 254, 255}}, "\x08\x08\x00\x01\x02\x03\x64\x80\xfe\xff"},
		{impl.Opt{Kind: 9, Seq: 0x010203040506}, "\x09\x06\x01\x02\x03\x04\x05\x06"},
		{impl.Opt{Kind: 10, Key: "87654321"}, "\x0a\x0887654321"},
	}
}

// with returns o with another value in one field. The Ids are copied, so that the options share none.
func with(o impl.Opt, name string, value any) impl.Opt {
	o.Ids = slices.Clone(o.Ids)
	reflect.ValueOf(&o).Elem().FieldByName(name).Set(reflect.ValueOf(value))
	return o
}

// fieldOf returns the value of a field of o.
func fieldOf(o impl.Opt, name string) any {
	return reflect.ValueOf(o).FieldByName(name).Interface()
}

// uses reports whether an option of this kind uses the field.
func uses(kind int, name string) bool {
	return name == "Kind" || slices.ContainsFunc(optLayouts()[kind], func(f optField) bool { return f.name == name })
}

// wantSameOpt checks that got is want in every field, and that SameOpt says so both ways.
func wantSameOpt(t *testing.T, got impl.Opt, want impl.Opt) {
	t.Helper()
	a, b := got, want
	a.Ids, b.Ids = nil, nil
	if !reflect.DeepEqual(a, b) || !slices.Equal(got.Ids, want.Ids) {
		t.Errorf("the option is %+v; want %+v", got, want)
	}
	if !impl.SameOpt(got, want) || !impl.SameOpt(want, got) {
		t.Errorf("SameOpt of %+v and %+v is false", got, want)
	}
}

// wantReadOpt checks that the option o is found at byte offset at of s, and takes many bytes.
func wantReadOpt(t *testing.T, s string, at int, o impl.Opt, many int) {
	t.Helper()
	got, after := impl.ReadOpt(s, at)
	if after != at+many {
		t.Errorf("ReadOpt(%.80q, %d) ends at %d; want %d", s, at, after, at+many)
	}
	wantSameOpt(t, got, o)
}

func wantNoReadOpt(t *testing.T, s string, at int) {
	t.Helper()
	got, after := impl.ReadOpt(s, at)
	if after != -1 {
		t.Errorf("ReadOpt(%.80q, %d) ends at %d; want -1", s, at, after)
	}
	wantSameOpt(t, got, impl.Opt{})
}

// wantOpt checks a valid option: its bytes, their number, and that it can be decoded from them wherever they are.
func wantOpt(t *testing.T, o impl.Opt, text string) {
	t.Helper()
	if !impl.OptOk(o) {
		t.Errorf("OptOk(%+v) is false", o)
	}
	if got := impl.OptText(o); got != text {
		t.Errorf("OptText(%+v) = %q; want %q", o, got, text)
	}
	if got := impl.OptSize(o); got != len(text) {
		t.Errorf("OptSize(%+v) = %d; want %d", o, got, len(text))
	}
	for _, before := range []string{"", "x", "\x00", "\x08\x02\x01", "\xff\xff\xff\xff\xff", text} {
		for _, after := range []string{"", "y", "\x00", "\xff", "\x01\x0812345678", text} {
			wantReadOpt(t, before+text+after, len(before), o, len(text))
		}
	}
}

func wantNoOpt(t *testing.T, o impl.Opt) {
	t.Helper()
	if impl.OptOk(o) {
		t.Errorf("OptOk(%+v) is true", o)
	}
	if got := impl.OptText(o); got != "" {
		t.Errorf("OptText(%+v) = %q; want nothing", o, got)
	}
	if got := impl.OptSize(o); got != 0 {
		t.Errorf("OptSize(%+v) = %d; want 0", o, got)
	}
}

// tableText is OptText of a valid option, from the table of the fields.
func tableText(o impl.Opt) string {
	text := ""
	for _, f := range optLayouts()[o.Kind] {
		switch value := fieldOf(o, f.name).(type) {
		case int:
			text += libraryText(value, f.size)
		case bool:
			text += map[bool]string{false: "\x00", true: "\x01"}[value]
		case string:
			text += value
		case []int:
			for _, id := range value {
				text += libraryText(id, 1)
			}
		}
	}
	return string([]byte{byte(o.Kind), byte(len(text))}) + text
}

// tableRead is ReadOpt, from the table of the fields. It reads strictly from the left and refuses at the first wrong byte.
func tableRead(s string, at int) (impl.Opt, int) {
	if at < 0 || len(s)-at < 2 || len(s)-at-2 < int(s[at+1]) {
		return impl.Opt{}, -1
	}
	o := impl.Opt{Kind: int(s[at])}
	rest := s[at+2 : at+2+int(s[at+1])]
	for _, f := range optLayouts()[o.Kind] {
		size := f.size
		if f.name == "Ids" {
			size = len(rest)
		}
		if len(rest) < size {
			return impl.Opt{}, -1
		}
		value, ok := tableValue(f.name, rest[:size])
		if !ok {
			return impl.Opt{}, -1
		}
		o, rest = with(o, f.name, value), rest[size:]
	}
	if rest != "" || optLayouts()[o.Kind] == nil {
		return impl.Opt{}, -1
	}
	return o, at + 2 + int(s[at+1])
}

// tableValue decodes the bytes of one field.
func tableValue(name string, part string) (any, bool) {
	switch name {
	case "Key", "Mark":
		return part, true
	case "Flag":
		return part == "\x01", part == "\x01" || part == "\x00"
	case "Ids":
		var ids []int
		for i, b := range []byte(part) {
			if i > 0 && b <= part[i-1] {
				return nil, false
			}
			ids = append(ids, int(b))
		}
		return ids, len(ids) >= 1 && len(ids) <= 8
	}
	n := 0
	for _, b := range []byte(part) {
		n = 256*n + int(b)
	}
	return n, true
}

// wantTableRead checks ReadOpt of any text, and that what is read has the bytes from which it was read.
func wantTableRead(t *testing.T, s string, at int) {
	t.Helper()
	o, after := tableRead(s, at)
	if after < 0 {
		wantNoReadOpt(t, s, at)
		return
	}
	wantReadOpt(t, s, at, o, after-at)
	if got, _ := impl.ReadOpt(s, at); impl.OptText(got) != s[at:after] {
		t.Errorf("ReadOpt(%q, %d) = %+v, whose OptText is %q", s, at, got, impl.OptText(got))
	}
}

// randomOpt returns a valid option of the kind.
func randomOpt(r *rand.Rand, kind int) impl.Opt {
	o := impl.Opt{Kind: kind}
	for _, f := range optLayouts()[kind] {
		switch f.name {
		case "Key", "Mark":
			text := make([]byte, f.size)
			r.Read(text)
			o = with(o, f.name, string(text))
		case "Flag":
			o.Flag = r.Intn(2) == 1
		case "Ids":
			o.Ids = r.Perm(256)[:1+r.Intn(8)]
			slices.Sort(o.Ids)
		default:
			o = with(o, f.name, r.Intn(limitOf(f.size)))
		}
	}
	return o
}

func TestOptKinds(t *testing.T) {
	kinds := []int{
		impl.OpCapable, impl.OpJoin, impl.OpBack, impl.OpDone, impl.OpData,
		impl.OpAddr, impl.OpEcho, impl.OpGone, impl.OpFail, impl.OpClose,
	}
	if !slices.Equal(kinds, []int{1, 2, 3, 4, 5, 6, 7, 8, 9, 10}) {
		t.Errorf("the kinds are %v", kinds)
	}
}

// Promise 6: ordinary options of each kind have the bytes that the document states, and are decoded from them.
func TestKnownOptions(t *testing.T) {
	for _, known := range knownOpts() {
		wantOpt(t, known.o, known.text)
	}
}

func TestManyOptions(t *testing.T) {
	r := rand.New(rand.NewSource(6))
	for range 200 {
		for kind := 1; kind <= 10; kind++ {
			o := randomOpt(r, kind)
			wantOpt(t, o, tableText(o))
		}
	}
}

// Options are found one after the other, as in a segment.
func TestOptionsInARow(t *testing.T) {
	row := "head"
	for _, known := range knownOpts() {
		row += impl.OptText(known.o)
	}
	at := 4
	for _, known := range knownOpts() {
		wantReadOpt(t, row, at, known.o, len(known.text))
		_, at = impl.ReadOpt(row, at)
	}
	if at != len(row) {
		t.Errorf("the options end at %d of %d", at, len(row))
	}
	wantNoReadOpt(t, row, at)
}

func TestOptionsOfOtherKinds(t *testing.T) {
	others := []int{0, 11, 12, 100, 255, 256, 257, 266, 1<<32 + 1, 1 << 62, math.MaxInt, -1, -2, -10, -255, -256, -246, math.MinInt, math.MinInt + 1}
	for _, known := range knownOpts() {
		for _, kind := range others {
			wantNoOpt(t, with(known.o, "Kind", kind))
		}
		for kind := range 256 {
			text := string([]byte{byte(kind)}) + known.text[1:]
			wantTableRead(t, text, 0)
			if kind < 1 || kind > 10 {
				wantNoReadOpt(t, text, 0)
			}
		}
	}
	for _, kind := range others {
		wantNoOpt(t, impl.Opt{Kind: kind})
	}
	for _, text := range []string{"\x00\x00", "\x0b\x00", "\x00\x01\x07", "\x0b\x01\x07", "\xff\x00", "\xff\x01\x07"} {
		wantNoReadOpt(t, text, 0)
	}
	wantNoOpt(t, impl.Opt{})
}

// With the fields of one kind, no other kind is valid, except that two have a Key alone, and two have a Seq among numbers.
func TestOptionsWithTheFieldsOfAnotherKind(t *testing.T) {
	alike := [][2]int{{impl.OpCapable, impl.OpClose}, {impl.OpClose, impl.OpCapable}, {impl.OpFail, impl.OpData}}
	for _, known := range knownOpts() {
		for kind := 1; kind <= 10; kind++ {
			o := with(known.o, "Kind", kind)
			if kind == known.o.Kind || slices.Contains(alike, [2]int{known.o.Kind, kind}) {
				wantOpt(t, o, tableText(o))
			} else {
				wantNoOpt(t, o)
			}
		}
	}
}

// strayValues are values of a field other than its zero value.
func strayValues(name string) []any {
	switch name {
	case "Flag":
		return []any{true}
	case "Key", "Mark":
		return []any{"\x00", "a", "12345678", strings.Repeat("\x00", 8), "abcdefghijklmnopqrst", sampleText(300)}
	case "Ids":
		return []any{[]int{0}, []int{1}, []int{1, 7}, []int{7, 1}, []int{-1}, []int{256}, make([]int, 9)}
	}
	return []any{1, 2, 255, 256, 65536, 1 << 32, 1 << 48, 1 << 62, math.MaxInt, -1, -256, math.MinInt}
}

// optFieldNames are the fields of an option, beside its Kind.
func optFieldNames() []string {
	var names []string
	for i := range reflect.TypeFor[impl.Opt]().NumField() {
		if name := reflect.TypeFor[impl.Opt]().Field(i).Name; name != "Kind" {
			names = append(names, name)
		}
	}
	return names
}

// For each kind, each field that it does not use makes the option invalid, if it alone is not zero.
func TestFieldsThatAKindDoesNotUse(t *testing.T) {
	checked := map[string]int{}
	for _, known := range knownOpts() {
		for _, name := range optFieldNames() {
			if uses(known.o.Kind, name) {
				continue
			}
			checked[name]++
			for _, value := range strayValues(name) {
				wantNoOpt(t, with(known.o, name, value))
			}
		}
	}
	for name, size := range map[string]int{
		"Id": 8, "Addr": 12, "Port": 12, "Token": 12, "Nonce": 10, "Seq": 12, "Sub": 13, "Len": 13, "Ack": 13, "Flag": 10, "Key": 12, "Mark": 10, "Ids": 11,
	} {
		if checked[name] != size {
			t.Errorf("%s was checked as a field that is not used of %d options; want %d", name, checked[name], size)
		}
	}
}

// All fields that a kind does not use are zero in an option that is read, whatever its bytes are.
func TestFieldsThatAKindDoesNotUseAreZeroWhenRead(t *testing.T) {
	r := rand.New(rand.NewSource(60))
	for range 50 {
		for kind := 1; kind <= 10; kind++ {
			got, _ := impl.ReadOpt(tableText(randomOpt(r, kind)), 0)
			for _, name := range optFieldNames() {
				if value := reflect.ValueOf(got).FieldByName(name); !uses(kind, name) && !value.IsZero() {
					t.Errorf("the %s of an option of kind %d is %v", name, kind, value)
				}
			}
		}
	}
}

// Ids that are empty but not nil are zero too.
func TestEmptyIdsAreZero(t *testing.T) {
	spare := []int{1, 2, 3}
	for _, known := range knownOpts() {
		if known.o.Kind != impl.OpGone {
			wantOpt(t, with(known.o, "Ids", []int{}), known.text)
			empty := known.o
			empty.Ids = spare[:0]
			wantOpt(t, empty, known.text)
		}
	}
	if !slices.Equal(spare, []int{1, 2, 3}) {
		t.Errorf("the spare capacity was changed to %v", spare)
	}
}

// numberFields calls visit for each known option and each number that it has.
func numberFields(visit func(o impl.Opt, f optField)) {
	for _, known := range knownOpts() {
		for _, f := range optLayouts()[known.o.Kind] {
			if _, ok := fieldOf(known.o, f.name).(int); ok {
				visit(known.o, f)
			}
		}
	}
}

func TestNumbersOfOptionsThatFit(t *testing.T) {
	checked := 0
	numberFields(func(o impl.Opt, f optField) {
		checked++
		for _, n := range append(numbersAround(f.size), numbersOf(f.size)...) {
			changed := with(o, f.name, n)
			wantOpt(t, changed, tableText(changed))
		}
	})
	if checked != 21 {
		t.Errorf("%d numbers were checked; want 21", checked)
	}
}

func TestNumbersOfOptionsThatDoNotFit(t *testing.T) {
	numberFields(func(o impl.Opt, f optField) {
		largest := with(o, f.name, limitOf(f.size)-1)
		wantOpt(t, largest, tableText(largest))
		wantNoOpt(t, with(o, f.name, limitOf(f.size)))
		wantNoOpt(t, with(o, f.name, -1))
		for _, n := range numbersOutside(f.size) {
			if n < 0 || n >= limitOf(f.size) {
				wantNoOpt(t, with(o, f.name, n))
			}
		}
	})
}

func TestOptionsOfZerosAndOfTheLargestNumbers(t *testing.T) {
	ones, zeros := strings.Repeat("\xff", 20), strings.Repeat("\x00", 20)
	wantOpt(t, impl.Opt{Kind: impl.OpCapable, Key: zeros[:8]}, "\x01\x08"+zeros[:8])
	wantOpt(t, impl.Opt{Kind: impl.OpJoin}, "\x02\x0a"+zeros[:10])
	wantOpt(t, impl.Opt{Kind: impl.OpBack, Mark: zeros[:8]}, "\x03\x0e"+zeros[:14])
	wantOpt(t, impl.Opt{Kind: impl.OpDone, Mark: zeros}, "\x04\x14"+zeros)
	wantOpt(t, impl.Opt{Kind: impl.OpData}, "\x05\x12"+zeros[:18])
	wantOpt(t, impl.Opt{Kind: impl.OpAddr, Mark: zeros[:8]}, "\x06\x0f"+zeros[:15])
	wantOpt(t, impl.Opt{Kind: impl.OpEcho}, "\x07\x07"+zeros[:7])
	wantOpt(t, impl.Opt{Kind: impl.OpGone, Ids: []int{0}}, "\x08\x01\x00")
	wantOpt(t, impl.Opt{Kind: impl.OpFail}, "\x09\x06"+zeros[:6])
	wantOpt(t, impl.Opt{Kind: impl.OpClose, Key: zeros[:8]}, "\x0a\x08"+zeros[:8])
	wantOpt(t, impl.Opt{Kind: impl.OpCapable, Key: ones[:8]}, "\x01\x08"+ones[:8])
	wantOpt(t, impl.Opt{Kind: impl.OpJoin, Id: 255, Flag: true, Token: 4294967295, Nonce: 4294967295}, "\x02\x0a\xff\x01"+ones[:8])
	wantOpt(t, impl.Opt{Kind: impl.OpBack, Id: 255, Flag: true, Mark: ones[:8], Nonce: 4294967295}, "\x03\x0e\xff\x01"+ones[:12])
	wantOpt(t, impl.Opt{Kind: impl.OpDone, Mark: ones}, "\x04\x14"+ones)
	wantOpt(t, impl.Opt{Kind: impl.OpData, Ack: 1<<48 - 1, Seq: 1<<48 - 1, Sub: 4294967295, Len: 65535}, "\x05\x12"+ones[:18])
	wantOpt(t, impl.Opt{Kind: impl.OpAddr, Id: 255, Addr: 4294967295, Port: 65535, Mark: ones[:8]}, "\x06\x0f"+ones[:15])
	wantOpt(t, impl.Opt{Kind: impl.OpEcho, Id: 255, Addr: 4294967295, Port: 65535}, "\x07\x07"+ones[:7])
	wantOpt(t, impl.Opt{Kind: impl.OpGone, Ids: []int{255}}, "\x08\x01\xff")
	wantOpt(t, impl.Opt{Kind: impl.OpFail, Seq: 1<<48 - 1}, "\x09\x06"+ones[:6])
	wantOpt(t, impl.Opt{Kind: impl.OpClose, Key: ones[:8]}, "\x0a\x08"+ones[:8])
}

// A Key or Mark of one byte too few or too many, or of any other number of bytes, makes an option invalid.
func TestKeysAndMarksOfEveryLength(t *testing.T) {
	checked := 0
	for _, known := range knownOpts() {
		for _, f := range optLayouts()[known.o.Kind] {
			if f.name != "Key" && f.name != "Mark" {
				continue
			}
			checked++
			for _, size := range append(lengthsUpTo(300), 65536+f.size) {
				changed := with(known.o, f.name, sampleText(size))
				if size == f.size {
					wantOpt(t, changed, tableText(changed))
				} else {
					wantNoOpt(t, changed)
				}
			}
			for b := range 256 {
				changed := with(known.o, f.name, strings.Repeat(everyByte()[b:b+1], f.size))
				wantOpt(t, changed, tableText(changed))
			}
		}
	}
	if checked != 6 {
		t.Errorf("%d keys and marks were checked; want 6", checked)
	}
}

func lengthsUpTo(most int) []int {
	lengths := make([]int, most+1)
	for i := range lengths {
		lengths[i] = i
	}
	return lengths
}

// Of the bytes in the place of a Flag, only 1 and 0 are read.
func TestEveryByteInThePlaceOfAFlag(t *testing.T) {
	for _, known := range knownOpts() {
		if known.o.Kind != impl.OpJoin && known.o.Kind != impl.OpBack {
			continue
		}
		for b := range 256 {
			text := known.text[:3] + everyByte()[b:b+1] + known.text[4:]
			if b > 1 {
				wantNoReadOpt(t, text, 0)
			} else {
				wantOpt(t, with(known.o, "Flag", b == 1), text)
			}
		}
	}
}

func gone(ids ...int) impl.Opt {
	return impl.Opt{Kind: impl.OpGone, Ids: ids}
}

func TestIdsOfEveryNumber(t *testing.T) {
	for size := range 600 {
		ids := lengthsUpTo(600)[1 : size+1]
		if size < 1 || size > 8 {
			wantNoOpt(t, gone(ids...))
			continue
		}
		wantOpt(t, gone(ids...), "\x08"+everyByte()[size:size+1]+everyByte()[1:size+1])
	}
	for size := 9; size < 256; size++ {
		wantNoReadOpt(t, "\x08"+everyByte()[size:size+1]+everyByte()[1:size+1]+"behind", 0)
	}
	wantNoOpt(t, impl.Opt{Kind: impl.OpGone})
	wantNoOpt(t, impl.Opt{Kind: impl.OpGone, Ids: []int{}})
	wantNoReadOpt(t, "\x08\x00", 0)
	wantNoReadOpt(t, "\x08\x00\x07", 0)
	wantOpt(t, gone(1, 2, 3, 4, 5, 6, 7, 8), "\x08\x08\x01\x02\x03\x04\x05\x06\x07\x08")
	wantNoOpt(t, gone(1, 2, 3, 4, 5, 6, 7, 8, 9))
	wantNoReadOpt(t, "\x08\x09\x01\x02\x03\x04\x05\x06\x07\x08\x09", 0)
}

func TestIdsAtTheirLimits(t *testing.T) {
	for id := range 256 {
		wantOpt(t, gone(id), "\x08\x01"+everyByte()[id:id+1])
	}
	wantOpt(t, gone(254, 255), "\x08\x02\xfe\xff")
	wantOpt(t, gone(0, 255), "\x08\x02\x00\xff")
	for _, id := range numbersOutside(1) {
		wantNoOpt(t, gone(id))
		if id < 0 {
			wantNoOpt(t, gone(id, 0))
			wantNoOpt(t, gone(id, 1, 2, 3, 4, 5, 6, 7))
		} else {
			wantNoOpt(t, gone(255, id))
			wantNoOpt(t, gone(0, 1, 2, 3, 4, 5, 6, id))
		}
	}
}

// Of all lists of three small Ids, just the strictly ascending ones are valid.
func TestIdsThatAreNotAscending(t *testing.T) {
	for a := range 5 {
		for b := range 5 {
			wantPair(t, a, b)
			for c := range 5 {
				text := "\x08\x03" + string([]byte{byte(a), byte(b), byte(c)})
				if a < b && b < c {
					wantOpt(t, gone(a, b, c), text)
				} else {
					wantNoOpt(t, gone(a, b, c))
					wantNoReadOpt(t, text, 0)
				}
			}
		}
	}
	for _, pair := range [][2]int{{255, 0}, {255, 254}, {255, 255}, {128, 127}, {127, 128}, {0, 128}, {200, 100}, {7, 1}} {
		wantPair(t, pair[0], pair[1])
	}
	// Of eight Ids, each pair of neighbours is exchanged, and each Id repeated.
	for at := range 7 {
		ids := []int{10, 20, 30, 40, 50, 60, 70, 80}
		ids[at], ids[at+1] = ids[at+1], ids[at]
		wantNoOpt(t, gone(ids...))
		ids[at] = ids[at+1]
		wantNoOpt(t, gone(ids...))
	}
}

func wantPair(t *testing.T, a int, b int) {
	t.Helper()
	text := "\x08\x02" + string([]byte{byte(a), byte(b)})
	if a < b {
		wantOpt(t, gone(a, b), text)
	} else {
		wantNoOpt(t, gone(a, b))
		wantNoReadOpt(t, text, 0)
	}
}

// A text that ends before the option does has none, at whatever offset the option begins.
func TestReadOptOfTextsThatEndTooEarly(t *testing.T) {
	for _, known := range knownOpts() {
		for size := range known.text {
			wantNoReadOpt(t, known.text[:size], 0)
			wantNoReadOpt(t, "ab"+known.text[:size], 2)
		}
	}
	wantNoReadOpt(t, "", 0)
	wantNoReadOpt(t, "\x09\x06\x00\x00\x00\x00\x00", 0)
	wantNoReadOpt(t, "\x08\x02\x01", 0)
}

// With another count of bytes there is no option, or a shorter or longer list of Ids, also with enough bytes behind.
func TestReadOptOfEveryCount(t *testing.T) {
	for _, known := range knownOpts() {
		for count := range 256 {
			for _, behind := range []string{"", "\x00", strings.Repeat("\x00", 300), "\xf0\xf1\xf2\xf3\xf4\xf5\xf6\xf7", everyByte()} {
				text := known.text[:1] + everyByte()[count:count+1] + known.text[2:] + behind
				wantTableRead(t, text, 0)
				if known.o.Kind != impl.OpGone && count != int(known.text[1]) {
					wantNoReadOpt(t, text, 0)
				}
			}
		}
	}
	wantReadOpt(t, "\x08\x01\x01\x07", 0, gone(1), 3)
	wantNoReadOpt(t, "\x08\x03\x01\x07", 0)
	wantReadOpt(t, "\x08\x03\x01\x07\x09", 0, gone(1, 7, 9), 5)
}

func TestReadOptOfOffsetsInsideATextAndOutside(t *testing.T) {
	for _, known := range knownOpts() {
		s := "xy" + known.text + known.text + "z"
		wantReadOpt(t, s, 2, known.o, len(known.text))
		wantReadOpt(t, s, 2+len(known.text), known.o, len(known.text))
		for at := range len(s) {
			wantTableRead(t, s, at)
		}
		for _, at := range []int{0, 1, len(s) - 2, len(s) - 1, len(s), len(s) + 1, len(s) + 2, 1 << 32, 1<<32 + 2, 1 << 62, math.MaxInt - 1, math.MaxInt} {
			wantNoReadOpt(t, s, at)
		}
		for less := 1; less <= len(s)+3; less++ {
			wantNoReadOpt(t, s, -less)
			wantNoReadOpt(t, known.text, -less)
		}
		for _, at := range []int{-1 << 32, 2 - 1<<32, -1 << 62, math.MinInt, math.MinInt + 1, math.MinInt + 2} {
			wantNoReadOpt(t, s, at)
		}
	}
	for _, at := range []int{-1, 0, 1, math.MaxInt, math.MinInt} {
		wantNoReadOpt(t, "", at)
	}
}

// Options may begin inside the bytes of another one.
func TestReadOptInsideAnotherOption(t *testing.T) {
	s := impl.OptText(impl.Opt{Kind: impl.OpDone, Mark: "\x08\x02\x01\x07\x09\x06abcdefghijklmn"})
	wantReadOpt(t, s, 2, gone(1, 7), 4)
	wantReadOpt(t, s, 6, impl.Opt{Kind: impl.OpFail, Seq: 0x616263646566}, 8)
	wantNoReadOpt(t, s, 1)
	wantNoReadOpt(t, s, 3)
}

// Each byte of each option is changed to each other one.
func TestReadOptOfChangedBytes(t *testing.T) {
	for _, known := range knownOpts() {
		for at := range known.text {
			for b := range 256 {
				text := known.text[:at] + everyByte()[b:b+1] + known.text[at+1:]
				wantTableRead(t, text+"\x01\x02\x03", 0)
			}
		}
	}
}

func TestReadOptOfAnyBytes(t *testing.T) {
	r := rand.New(rand.NewSource(600))
	found := 0
	for range 20000 {
		bytes := make([]byte, r.Intn(40))
		for i := range bytes {
			bytes[i] = byte(r.Intn(1 + r.Intn(256)))
		}
		s := string(bytes)
		for at := range len(s) + 1 {
			wantTableRead(t, s, at)
			if _, after := tableRead(s, at); after >= 0 {
				found++
			}
		}
	}
	if found < 100 {
		t.Errorf("only %d options were found", found)
	}
}

// No two different options have the same bytes, and none has bytes with which those of another one begin.
func TestTextsOfOtherOptionsDiffer(t *testing.T) {
	for i, one := range knownOpts() {
		for j, two := range knownOpts() {
			if i != j && strings.HasPrefix(impl.OptText(one.o), impl.OptText(two.o)) {
				t.Errorf("the bytes of %+v begin with those of %+v", one.o, two.o)
			}
		}
	}
}

func TestSameOptOfEqualOptions(t *testing.T) {
	for _, known := range knownOpts() {
		wantSameOpt(t, known.o, with(known.o, "Kind", known.o.Kind))
	}
	// Options that are not valid are compared too.
	wantSameOpt(t, impl.Opt{}, impl.Opt{})
	full := fullOpt()
	wantSameOpt(t, full, with(full, "Kind", full.Kind))
	wantSameOpt(t, impl.Opt{Kind: -1, Ids: []int{3, 2, 2}}, impl.Opt{Kind: -1, Ids: []int{3, 2, 2}})
	wantSameOpt(t, impl.Opt{Ids: []int{}}, impl.Opt{})
	wantSameOpt(t, impl.Opt{Kind: impl.OpFail, Ids: []int{}}, impl.Opt{Kind: impl.OpFail})
}

// fullOpt has a value other than the zero value in every field.
func fullOpt() impl.Opt {
	return impl.Opt{
		Kind: 8, Id: 1, Addr: 2, Port: 3, Token: 4, Nonce: 5, Seq: 6, Sub: 7, Len: 8, Ack: 9,
		Flag: true, Key: "12345678", Mark: "abcdefgh", Ids: []int{1, 7},
	}
}

// Two options that differ in one field only are not the same, whether or not their kind uses it.
func TestSameOptOfOptionsThatDifferInOneField(t *testing.T) {
	options := []impl.Opt{{}, fullOpt()}
	for _, known := range knownOpts() {
		options = append(options, known.o)
	}
	for _, o := range options {
		for _, name := range append(optFieldNames(), "Kind") {
			for _, value := range append(strayValues(name), fieldOf(impl.Opt{}, name)) {
				if !reflect.DeepEqual(fieldOf(o, name), value) {
					wantOtherOpts(t, o, with(o, name, value))
				}
			}
		}
	}
}

func wantOtherOpts(t *testing.T, a impl.Opt, b impl.Opt) {
	t.Helper()
	if impl.SameOpt(a, b) || impl.SameOpt(b, a) {
		t.Errorf("SameOpt of %+v and %+v is true", a, b)
	}
}

func TestSameOptOfOtherIds(t *testing.T) {
	for _, pair := range [][2][]int{
		{{}, {0}}, {{1}, {1, 7}}, {{1, 7}, {1, 7, 7}}, {{1, 7}, {7, 1}}, {{1, 7}, {1, 8}}, {{0, 7}, {1, 7}}, {{7}, {0, 7}}, {{0}, {256}}, {{0}, {0, 0}},
	} {
		wantOtherOpts(t, gone(pair[0]...), gone(pair[1]...))
		wantOtherOpts(t, impl.Opt{Ids: pair[0]}, impl.Opt{Ids: pair[1]})
	}
	// Lists that begin in the same memory are compared by their elements.
	ids := []int{1, 2, 3, 4}
	wantOtherOpts(t, gone(ids[:2]...), gone(ids[:3]...))
	wantSameOpt(t, gone(ids[:3:3]...), gone(ids[:3]...))
}

// The Ids of an option that was read belong to the caller alone: changing them changes no other result.
func TestReadOptReturnsNewIds(t *testing.T) {
	s := "x\x08\x03\x01\x07\x09y"
	first, _ := impl.ReadOpt(s, 1)
	second, _ := impl.ReadOpt(s, 1)
	for i := range first.Ids {
		first.Ids[i] = 99
	}
	_ = append(first.Ids, 98, 97)
	wantSameOpt(t, second, gone(1, 7, 9))
	wantReadOpt(t, s, 1, gone(1, 7, 9), 5)
	if s != "x\x08\x03\x01\x07\x09y" {
		t.Errorf("the text was changed to %q", s)
	}
}

// No function changes the Ids of its argument or keeps them, nor the elements behind them.
func TestIdsOfAnArgumentAreLeftAlone(t *testing.T) {
	for _, ids := range [][]int{{1, 7, 9, 5}, {9, 7, 1, 5}, {1, 1, 1, 5}, {-1, 256, 0, 5}} {
		kept := slices.Clone(ids)
		o, other := gone(ids[:3]...), gone(slices.Clone(ids[:3])...)
		text := impl.OptText(o)
		ok, size, same := impl.OptOk(o), impl.OptSize(o), impl.SameOpt(o, other) && impl.SameOpt(other, o)
		if !slices.Equal(ids, kept) || !slices.Equal(other.Ids, kept[:3]) {
			t.Errorf("the Ids %v were changed to %v and %v", kept, ids, other.Ids)
		}
		if ok != (text != "") || size != len(text) || !same {
			t.Errorf("the option of %v: %v, %d, %v, %q", kept, ok, size, same, text)
		}
		// After the caller has changed them, the results are those of the new Ids.
		ids[0], ids[1], ids[2] = 2, 3, 4
		wantOpt(t, o, "\x08\x03\x02\x03\x04")
		wantOtherOpts(t, o, other)
	}
}

func TestOptionsReturnNewMemory(t *testing.T) {
	for _, known := range knownOpts() {
		o, _ := impl.ReadOpt(known.text, 0)
		for _, text := range []string{o.Key, o.Mark} {
			if text != "" && sharesMemory(text, known.text) {
				t.Errorf("ReadOpt(%q, 0) shares memory with its argument", known.text)
			}
		}
		got := impl.OptText(known.o)
		if sharesMemory(got, known.o.Key) || sharesMemory(got, known.o.Mark) {
			t.Errorf("OptText(%+v) shares memory with its argument", known.o)
		}
	}
}

// sharesMemory reports whether a byte of a is a byte of b too.
func sharesMemory(a string, b string) bool {
	if a == "" || b == "" {
		return false
	}
	startA, startB := uintptr(unsafe.Pointer(unsafe.StringData(a))), uintptr(unsafe.Pointer(unsafe.StringData(b)))
	return startA < startB+uintptr(len(b)) && startB < startA+uintptr(len(a))
}
