package tests

import (
	"math"
	"math/rand"
	"reflect"
	"strings"
	"testing"

	"loop.example/g00967/impl"
)

// letterKind is one of the thirteen kinds, as the document states it.
type letterKind struct {
	name   string
	got    int
	kind   int
	signed bool
}

func letterKinds() []letterKind {
	return []letterKind{
		{"LtHello", impl.LtHello, 1, false},
		{"LtBack", impl.LtBack, 2, false},
		{"LtDone", impl.LtDone, 3, false},
		{"LtJoin", impl.LtJoin, 4, false},
		{"LtJoinBack", impl.LtJoinBack, 5, false},
		{"LtJoinDone", impl.LtJoinDone, 6, false},
		{"LtJoinAck", impl.LtJoinAck, 7, true},
		{"LtAddr", impl.LtAddr, 8, true},
		{"LtEcho", impl.LtEcho, 9, true},
		{"LtGone", impl.LtGone, 10, true},
		{"LtData", impl.LtData, 11, true},
		{"LtCame", impl.LtCame, 12, true},
		{"LtReset", impl.LtReset, 13, true},
	}
}

// noKinds are numbers that are no kinds: also those that differ from one by a power of two, or in the sign.
func noKinds() []int {
	none := []int{0, 14, 15, 16, 17, 20, 26, 100, mostNum, mostNum + 1, math.MaxInt, math.MaxInt - 1, math.MinInt, math.MinInt + 1, math.MaxInt32, math.MinInt32}
	for _, k := range letterKinds() {
		none = append(none, -k.kind, k.kind+13, k.kind-13, k.kind-14, k.kind+1<<8, k.kind-1<<8, k.kind+1<<16, k.kind+1<<32, k.kind-1<<32, k.kind+1<<62, math.MinInt+k.kind, math.MaxInt-k.kind)
	}
	return none
}

// letterFields are all numbers of a message but its Kind; the first three are those that Between sets.
func letterFields() []intField[impl.Letter] {
	return []intField[impl.Letter]{
		{"From", func(x *impl.Letter) *int { return &x.From }},
		{"To", func(x *impl.Letter) *int { return &x.To }},
		{"Port", func(x *impl.Letter) *int { return &x.Port }},
		{"Key", func(x *impl.Letter) *int { return &x.Key }},
		{"Token", func(x *impl.Letter) *int { return &x.Token }},
		{"Nonce", func(x *impl.Letter) *int { return &x.Nonce }},
		{"Give", func(x *impl.Letter) *int { return &x.Give }},
		{"Sign", func(x *impl.Letter) *int { return &x.Sign }},
		{"Tag.Kind", func(x *impl.Letter) *int { return &x.Tag.Kind }},
		{"Tag.One", func(x *impl.Letter) *int { return &x.Tag.One }},
		{"Tag.Two", func(x *impl.Letter) *int { return &x.Tag.Two }},
		{"Tag.A", func(x *impl.Letter) *int { return &x.Tag.A }},
		{"Tag.B", func(x *impl.Letter) *int { return &x.Tag.B }},
		{"Id", func(x *impl.Letter) *int { return &x.Id }},
		{"Addr", func(x *impl.Letter) *int { return &x.Addr }},
		{"At", func(x *impl.Letter) *int { return &x.At }},
	}
}

func kindField() intField[impl.Letter] {
	return intField[impl.Letter]{"Kind", func(x *impl.Letter) *int { return &x.Kind }}
}

// fullLetter returns a message in which all numbers but its Kind differ, and no field is zero.
func fullLetter(kind int) impl.Letter {
	x := impl.Letter{Kind: kind, Spare: true, Text: "some text"}
	for i, f := range letterFields() {
		x = f.set(x, 101+i)
	}
	return x
}

// validNumbers are numbers that all fields of a message but its Kind may have.
func validNumbers() []int {
	return []int{0, 1, 2, 3, 4, 13, 14, 255, 256, 65535, 65536, 1 << 24, mostNum - 1, mostNum}
}

// invalidNumbers are numbers that no field of a message may have.
func invalidNumbers() []int {
	return []int{-1, -2, -13, -mostNum, mostNum + 1, mostNum + 2, 2 * mostNum, 1 << 30, math.MaxInt32, math.MinInt32, 1 << 32, 1<<32 + 1, 1<<32 + mostNum, -1 << 32, 1<<62 + 1, math.MaxInt - 1, math.MaxInt, math.MinInt, math.MinInt + 1}
}

// validTexts are texts that a message may have: what counts is the number of bytes, not what they are.
func validTexts() []string {
	return []string{
		"", "a", "\x00", " ", "\n", "\xff", "\xc3", "abc", "19 bytes, and no end",
		strings.Repeat("\x00", 19), strings.Repeat("\x00", 20), strings.Repeat("\xff", 20), strings.Repeat("\x80", 20),
		strings.Repeat("x", 19), strings.Repeat("x", 20), strings.Repeat(",", 20), strings.Repeat(";", 20),
		strings.Repeat("é", 10), strings.Repeat("\U0001F600", 5), "\xed\xa0\x80 a half \xc0\xaf",
		sampleText(1), sampleText(mostSent - 1), sampleText(mostSent),
	}
}

// invalidTexts are texts that are too long, also if they have few characters.
func invalidTexts() []string {
	return []string{
		strings.Repeat("\x00", 21), strings.Repeat("\xff", 21), strings.Repeat("\x80", 21), strings.Repeat("x", 21),
		strings.Repeat(" ", 21), strings.Repeat("€", 7), strings.Repeat("é", 11), strings.Repeat("\U0001F600", 6),
		sampleText(mostSent + 1), sampleText(mostSent + 2), sampleText(2 * mostSent), sampleText(200),
		sampleText(255), sampleText(256), sampleText(256 + mostSent), sampleText(1 << 16), sampleText(1<<16 + 5),
	}
}

// tableLetterOk is LetterOk, from each field alone.
func tableLetterOk(x impl.Letter) bool {
	ok := false
	for _, k := range letterKinds() {
		ok = ok || x.Kind == k.kind
	}
	for _, f := range letterFields() {
		n := *f.of(&x)
		ok = ok && n >= 0 && n <= mostNum
	}
	return ok && len([]byte(x.Text)) < 21
}

func wantLetterOk(t *testing.T, x impl.Letter, want bool) {
	t.Helper()
	given := newLetter(x)
	if got := impl.LetterOk(given); got != want {
		t.Errorf("LetterOk(%#v) is %v", x, got)
	}
	if given != x {
		t.Errorf("LetterOk(%#v) has changed its argument to %#v", x, given)
	}
	if got := tableLetterOk(x); got != want {
		t.Errorf("the tests say %v of %#v", got, x)
	}
}

// newLetter returns x with its text in new memory.
func newLetter(x impl.Letter) impl.Letter {
	x.Text = strings.Clone(x.Text)
	return x
}

func road(own int, far int, port int) impl.Road { return impl.Road{Own: own, Far: far, Port: port} }

func wantRoadOf(t *testing.T, x impl.Letter, own int, far int, port int) {
	t.Helper()
	if got := impl.RoadOf(x); got.Own != own || got.Far != far || got.Port != port {
		t.Errorf("RoadOf(%#v) = %#v; want %d, %d and %d", x, got, own, far, port)
	}
}

// wantBetween checks each field that Between sets, each that it leaves, and that the receiver's path is the same one from the other end.
func wantBetween(t *testing.T, r impl.Road, x impl.Letter) {
	t.Helper()
	given := newLetter(x)
	got := impl.Between(r, given)
	if got.From != r.Own || got.To != r.Far || got.Port != r.Port {
		t.Errorf("Between(%#v, %#v) is from %d to %d with Port %d", r, x, got.From, got.To, got.Port)
	}
	for _, f := range append(letterFields()[3:], kindField()) {
		if is, was := *f.of(&got), *f.of(&x); is != was {
			t.Errorf("Between(%#v, %#v) changes %s to %d", r, x, f.name, is)
		}
	}
	if got.Spare != x.Spare || got.Text != x.Text {
		t.Errorf("Between(%#v, %#v) changes Spare and Text to %v and %q", r, x, got.Spare, got.Text)
	}
	if given != x {
		t.Errorf("Between(%#v, %#v) has changed its argument to %#v", r, x, given)
	}
	wantNewTexts(t, "Between", []string{given.Text}, []string{got.Text})
	wantRoadOf(t, got, r.Far, r.Own, r.Port)
	if impl.RoadOf(got) != impl.RoadBack(r) {
		t.Errorf("RoadOf(Between(%#v, %#v)) is not the path back", r, x)
	}
}

func TestLetterConstants(t *testing.T) {
	for _, k := range letterKinds() {
		if k.got != k.kind {
			t.Errorf("%s is %d", k.name, k.got)
		}
	}
}

// The other tests visit the fields one by one, so that one which is missing, or there twice, would not be noticed.
func TestLetterFieldsAreAllFields(t *testing.T) {
	var x impl.Letter
	places := map[*int]string{}
	for _, f := range append(letterFields(), kindField()) {
		if other := places[f.of(&x)]; other != "" {
			t.Errorf("%s and %s are one field", f.name, other)
		}
		places[f.of(&x)] = f.name
	}
	full := fullLetter(1)
	want := impl.Letter{Kind: 1, From: 101, To: 102, Port: 103, Key: 104, Token: 105, Nonce: 106, Give: 107, Sign: 108, Tag: tagOf(109, 110, 111, 112, 113), Id: 114, Addr: 115, Spare: true, At: 116, Text: "some text"}
	if full != want || reflect.ValueOf(full).NumField() != 15 {
		t.Errorf("the message is %#v", full)
	}
}

func TestKnownLetters(t *testing.T) {
	for _, x := range []impl.Letter{
		{Kind: 1, From: 11, To: 21, Key: 1001, Give: 1003},
		{Kind: 2, From: 21, To: 11, Key: 1002, Give: 1004},
		{Kind: 3, From: 11, To: 21},
		{Kind: 4, From: 12, To: 21, Token: 102, Nonce: 1005, Give: 1007, Spare: true},
		{Kind: 5, From: 21, To: 12, Tag: tagOf(1, 1002, 1001, 1006, 1005), Nonce: 1006, Give: 1008},
		{Kind: 6, From: 12, To: 21, Tag: tagOf(2, 1001, 1002, 1005, 1006)},
		{Kind: 7, From: 21, To: 12, Sign: 1007},
		{Kind: 8, From: 11, To: 21, Sign: 1004, Id: 1, Addr: 12, Tag: tagOf(3, 1001, 1002, 1, 12)},
		{Kind: 9, From: 21, To: 11, Sign: 1003, Id: 1, Addr: 12},
		{Kind: 10, From: 11, To: 21, Sign: 1004, Id: 1},
		{Kind: 11, From: 11, To: 21, Port: 2, Sign: 1004, At: 40, Text: "a text of 20 bytes, "},
		{Kind: 12, From: 21, To: 11, Port: 2, Sign: 1003, At: 60},
		{Kind: 13, From: 11, To: 21, Sign: 1004},
	} {
		wantLetterOk(t, x, true)
		wantRoadOf(t, x, x.To, x.From, x.Port)
		wantBetween(t, road(31, 32, 33), x)
	}
}

func TestLetterOkOfEachKind(t *testing.T) {
	for _, k := range letterKinds() {
		wantLetterOk(t, impl.Letter{Kind: k.kind}, true)
		wantLetterOk(t, impl.Letter{Kind: k.got}, true)
		wantLetterOk(t, fullLetter(k.kind), true)
	}
	for _, kind := range noKinds() {
		wantLetterOk(t, impl.Letter{Kind: kind}, false)
		wantLetterOk(t, fullLetter(kind), false)
	}
	for kind := -300; kind <= 300; kind++ {
		wantLetterOk(t, impl.Letter{Kind: kind}, kind >= 1 && kind <= 13)
	}
}

func TestZeroLetterIsNotValid(t *testing.T) {
	wantLetterOk(t, impl.Letter{}, false)
	wantLetterOk(t, impl.Letter{Spare: true, Text: "a"}, false)
	wantLetterOk(t, impl.Letter{Kind: 1}, true)
}

// Each number alone is at its limits, in messages of each kind, and all numbers are.
func TestLetterOkOfEachNumber(t *testing.T) {
	for _, k := range letterKinds() {
		for _, x := range []impl.Letter{{Kind: k.kind}, fullLetter(k.kind)} {
			for _, f := range letterFields() {
				for _, n := range validNumbers() {
					wantLetterOk(t, f.set(x, n), true)
				}
				for _, n := range invalidNumbers() {
					wantLetterOk(t, f.set(x, n), false)
				}
			}
		}
	}
	for _, n := range validNumbers() {
		wantLetterOk(t, letterOfNumber(n), true)
	}
	for _, n := range invalidNumbers() {
		wantLetterOk(t, letterOfNumber(n), false)
	}
}

// letterOfNumber returns a LtData in which all other numbers are n.
func letterOfNumber(n int) impl.Letter {
	x := impl.Letter{Kind: 11}
	for _, f := range letterFields() {
		x = f.set(x, n)
	}
	return x
}

// Two numbers that are not valid do not make up for each other.
func TestLetterOkOfTwoNumbers(t *testing.T) {
	fields := letterFields()
	for i, f := range fields {
		for j, g := range fields {
			for _, n := range []int{-1, mostNum + 1, math.MaxInt, math.MinInt} {
				for _, m := range []int{0, mostNum, -n, -1, mostNum + 1, math.MinInt} {
					x := f.set(g.set(fullLetter(8), m), n)
					wantLetterOk(t, x, false)
					if i != j {
						wantLetterOk(t, f.set(x, 0), m >= 0 && m <= mostNum)
					}
				}
			}
		}
	}
}

// Tag may have each Kind, also one that no code has, and the zero one.
func TestLetterOkOfEachTag(t *testing.T) {
	for _, k := range letterKinds() {
		for kind := range 30 {
			wantLetterOk(t, impl.Letter{Kind: k.kind, Tag: tagOf(kind, 1, 2, 3, 4)}, true)
		}
		for _, tag := range []impl.Tag{{}, impl.TagBack(1, 2, 3, 4), impl.TagDone(mostNum, 0, mostNum, 0), impl.TagAddr(0, mostNum, 255, 65535)} {
			wantLetterOk(t, impl.Letter{Kind: k.kind, Tag: tag}, true)
		}
		for _, tag := range []impl.Tag{impl.TagBack(-1, 2, 3, 4), impl.TagDone(1, mostNum+1, 3, 4), impl.TagAddr(1, 2, math.MinInt, 4), impl.TagAddr(1, 2, 3, math.MaxInt), tagOf(-1, 0, 0, 0, 0)} {
			wantLetterOk(t, impl.Letter{Kind: k.kind, Tag: tag}, false)
		}
	}
}

// A message of each kind may have a Text, which is counted in bytes.
func TestLetterOkOfEachText(t *testing.T) {
	for _, k := range letterKinds() {
		for _, x := range []impl.Letter{{Kind: k.kind}, fullLetter(k.kind)} {
			for _, x.Text = range validTexts() {
				wantLetterOk(t, x, true)
			}
			for _, x.Text = range invalidTexts() {
				wantLetterOk(t, x, false)
			}
			for size := range 70 {
				for _, b := range []string{"x", "\x00", "\xff", "\xc3"} {
					x.Text = strings.Repeat(b, size)
					wantLetterOk(t, x, size <= mostSent)
				}
			}
		}
	}
}

func TestLetterOkWithAndWithoutSpare(t *testing.T) {
	for kind := -2; kind <= 16; kind++ {
		for _, spare := range []bool{false, true} {
			want := kind >= 1 && kind <= 13
			x := fullLetter(kind)
			x.Spare = spare
			wantLetterOk(t, x, want)
			wantLetterOk(t, impl.Letter{Kind: kind, Spare: spare}, want)
			x.At = mostNum + 1
			wantLetterOk(t, x, false)
		}
	}
}

// Own is To, Far is From, and Port is Port, whatever numbers they are.
func TestRoadOfHasItsNumbersInTheirPlaces(t *testing.T) {
	numbers := append(validNumbers(), invalidNumbers()...)
	wantRoadOf(t, impl.Letter{From: 11, To: 21, Port: 2}, 21, 11, 2)
	wantRoadOf(t, impl.Letter{From: 21, To: 11}, 11, 21, 0)
	wantRoadOf(t, impl.Letter{}, 0, 0, 0)
	for _, n := range numbers {
		wantRoadOf(t, impl.Letter{From: n}, 0, n, 0)
		wantRoadOf(t, impl.Letter{To: n}, n, 0, 0)
		wantRoadOf(t, impl.Letter{Port: n}, 0, 0, n)
		wantRoadOf(t, impl.Letter{From: n, To: n, Port: n}, n, n, n)
		for _, m := range numbers {
			wantRoadOf(t, impl.Letter{From: n, To: m, Port: 5}, m, n, 5)
			wantRoadOf(t, impl.Letter{From: n, To: 5, Port: m}, 5, n, m)
			wantRoadOf(t, impl.Letter{From: 5, To: n, Port: m}, n, 5, m)
			wantRoadOf(t, impl.Letter{From: n, To: n, Port: m}, n, n, m)
			wantRoadOf(t, impl.Letter{From: n, To: m, Port: n}, m, n, n)
			wantRoadOf(t, impl.Letter{From: m, To: n, Port: n}, n, m, n)
		}
	}
}

// No other field counts, and a message that is not valid has a path too.
func TestRoadOfAsksNoOtherField(t *testing.T) {
	for _, r := range []impl.Road{{}, road(21, 11, 2), road(-1, math.MaxInt, math.MinInt), road(7, 7, 7)} {
		x := impl.Letter{From: r.Far, To: r.Own, Port: r.Port}
		for _, f := range append(letterFields()[3:], kindField()) {
			for _, n := range append(validNumbers(), invalidNumbers()...) {
				wantRoadOf(t, f.set(x, n), r.Own, r.Far, r.Port)
			}
		}
		for _, x.Text = range append(validTexts(), invalidTexts()...) {
			wantRoadOf(t, x, r.Own, r.Far, r.Port)
			x.Spare = !x.Spare
			wantRoadOf(t, x, r.Own, r.Far, r.Port)
		}
	}
	// Each of these messages is not valid for one reason alone.
	for _, kind := range noKinds() {
		x := fullLetter(kind)
		wantLetterOk(t, x, false)
		wantRoadOf(t, x, 102, 101, 103)
	}
}

func TestOnRoadOfEachKind(t *testing.T) {
	for _, k := range letterKinds() {
		if impl.OnRoad(k.kind) != k.signed || impl.OnRoad(k.got) != k.signed {
			t.Errorf("OnRoad(%s) is %v", k.name, impl.OnRoad(k.kind))
		}
	}
	for _, kind := range noKinds() {
		if impl.OnRoad(kind) {
			t.Errorf("OnRoad(%d) is true", kind)
		}
	}
	for kind := -1000; kind <= 1000; kind++ {
		if got := impl.OnRoad(kind); got != (kind >= 7 && kind <= 13) {
			t.Errorf("OnRoad(%d) is %v", kind, got)
		}
	}
}

// Between sets three fields and no others, whatever they were.
func TestBetweenOfEachField(t *testing.T) {
	roads := []impl.Road{{}, road(11, 21, 0), road(21, 11, 2), road(7, 7, 7), road(mostNum, 0, mostNum), road(0, mostNum, 0)}
	for _, k := range letterKinds() {
		for _, r := range roads {
			for _, x := range []impl.Letter{{Kind: k.kind}, fullLetter(k.kind)} {
				wantBetween(t, r, x)
				for _, f := range letterFields() {
					for _, n := range []int{0, 1, 7, 11, 21, mostNum} {
						wantBetween(t, r, f.set(x, n))
					}
				}
				for _, x.Text = range validTexts() {
					x.Spare = !x.Spare
					wantBetween(t, r, x)
				}
				wantLetterOk(t, impl.Between(r, x), true)
			}
		}
	}
}

func TestKnownBetween(t *testing.T) {
	got := impl.Between(road(11, 21, 2), impl.Letter{Kind: 11, From: 1, To: 2, Port: 3, Sign: 1004, At: 40, Text: "abc"})
	if want := (impl.Letter{Kind: 11, From: 11, To: 21, Port: 2, Sign: 1004, At: 40, Text: "abc"}); got != want {
		t.Errorf("Between gives %#v", got)
	}
	x := fullLetter(9)
	x.From, x.To, x.Port = 5, 6, 0
	if got := impl.Between(road(5, 6, 0), fullLetter(9)); got != x {
		t.Errorf("Between gives %#v", got)
	}
	if got := impl.Between(impl.Road{}, impl.Letter{}); got != (impl.Letter{}) {
		t.Errorf("Between gives %#v", got)
	}
}

// A path or a message that is not valid is not refused: Between sets the fields all the same, and leaves the others.
func TestBetweenOfInvalidArguments(t *testing.T) {
	numbers := append(validNumbers(), invalidNumbers()...)
	for _, n := range numbers {
		for _, m := range numbers {
			for _, r := range []impl.Road{road(n, m, 5), road(n, 5, m), road(5, n, m), road(n, n, m), road(n, m, n), road(m, n, n)} {
				wantBetween(t, r, fullLetter(11))
				wantLetterOk(t, impl.Between(r, fullLetter(11)), min(n, m) >= 0 && max(n, m) <= mostNum)
			}
		}
	}
	for _, r := range []impl.Road{{}, road(11, 21, 2), road(-1, -2, -3), road(math.MaxInt, math.MinInt, mostNum+1)} {
		for _, kind := range noKinds() {
			wantBetween(t, r, impl.Letter{Kind: kind})
			wantBetween(t, r, fullLetter(kind))
		}
		for _, f := range letterFields() {
			for _, n := range invalidNumbers() {
				wantBetween(t, r, f.set(fullLetter(4), n))
				wantBetween(t, r, f.set(impl.Letter{}, n))
			}
		}
		for _, text := range invalidTexts() {
			wantBetween(t, r, impl.Letter{Kind: 11, Text: text})
			wantBetween(t, r, impl.Letter{Text: text, Spare: true})
		}
	}
}

// A message whose addresses are not valid is, once it is placed on a path.
func TestBetweenReplacesInvalidNumbers(t *testing.T) {
	for _, f := range letterFields()[:3] {
		for _, n := range invalidNumbers() {
			x := f.set(fullLetter(5), n)
			wantLetterOk(t, x, false)
			wantLetterOk(t, impl.Between(road(11, 21, 0), x), true)
		}
	}
	for _, f := range letterFields()[3:] {
		for _, n := range invalidNumbers() {
			wantLetterOk(t, impl.Between(road(11, 21, 0), f.set(fullLetter(5), n)), false)
		}
	}
}

// Promise 16: a message is on the path on which it was placed last, from either end, and an answer to it goes back there.
func TestBetweenAndRoadOf(t *testing.T) {
	random := rand.New(rand.NewSource(16))
	for range 3000 {
		x, r, s := anyLetter(random), anyRoad(random), anyRoad(random)
		wantBetween(t, r, x)
		placed := impl.Between(r, x)
		if again := impl.Between(r, impl.Between(s, x)); again != placed {
			t.Errorf("Between of %#v, and of %#v before, gives %#v", r, s, again)
		}
		// What is placed on the path of its sender stays as it is.
		if same := impl.Between(impl.RoadBack(impl.RoadOf(x)), x); same != x {
			t.Errorf("%#v is placed where it was and becomes %#v", x, same)
		}
		// The receiver answers on RoadOf the message.
		answer := impl.Between(impl.RoadOf(placed), impl.Letter{Kind: 9, Text: x.Text})
		if answer.From != r.Far || answer.To != r.Own || impl.RoadOf(answer) != r {
			t.Errorf("the answer on %#v is %#v", r, answer)
		}
		wantLetterOk(t, x, tableLetterOk(x))
		wantLetterOk(t, placed, tableLetterOk(placed))
	}
}

// anyNumber returns a number that is mostly valid.
func anyNumber(r *rand.Rand) int {
	if numbers := invalidNumbers(); r.Intn(40) == 0 {
		return numbers[r.Intn(len(numbers))]
	}
	numbers := validNumbers()
	return numbers[r.Intn(len(numbers))]
}

func anyRoad(r *rand.Rand) impl.Road { return road(anyNumber(r), anyNumber(r), anyNumber(r)) }

// anyLetter returns a message that is valid in about half of all cases.
func anyLetter(r *rand.Rand) impl.Letter {
	x := impl.Letter{Kind: 1 + r.Intn(13), Spare: r.Intn(2) == 0, Text: sampleText(r.Intn(22))}
	for _, f := range letterFields() {
		x = f.set(x, anyNumber(r))
	}
	if r.Intn(10) == 0 {
		x.Kind = anyNumber(r)
	}
	return x
}

func TestRandomLetters(t *testing.T) {
	random := rand.New(rand.NewSource(161))
	valid := 0
	for range 20000 {
		x := anyLetter(random)
		want := tableLetterOk(x)
		wantLetterOk(t, x, want)
		if want {
			valid++
		}
	}
	if valid < 6000 || valid > 14000 {
		t.Errorf("%d of 20000 messages are valid", valid)
	}
}

// The kinds that OnRoad knows are kinds of messages, and no field of a message changes whether its kind is signed.
func TestSignedKindsAreKinds(t *testing.T) {
	signed := 0
	for kind := -100; kind <= 100; kind++ {
		if impl.OnRoad(kind) {
			signed++
			wantLetterOk(t, impl.Letter{Kind: kind}, true)
		}
	}
	if signed != 7 {
		t.Errorf("%d kinds are signed", signed)
	}
}

// Each result of Between belongs to the caller alone.
func TestBetweenReturnsNewMemory(t *testing.T) {
	for _, text := range append(validTexts(), invalidTexts()...) {
		x := newLetter(impl.Letter{Kind: 11, From: 11, To: 21, Port: 2, Text: text})
		for _, r := range []impl.Road{{}, road(11, 21, 2), road(-1, mostNum+1, 0)} {
			first, second := impl.Between(r, x), impl.Between(r, x)
			wantNewTexts(t, "Between", []string{x.Text}, []string{first.Text, second.Text})
		}
	}
}
