package tests

import (
	"math"
	"math/rand"
	"strings"
	"testing"

	"loop.example/g00967/impl"
)

// mostSent is the most bytes of a piece, as the document states them.
const mostSent = 20

// newOut returns o with its text in new memory.
func newOut(o impl.Out) impl.Out {
	o.Text = strings.Clone(o.Text)
	return o
}

// out returns a buffer behind base bytes, of which sent were sent.
func out(text string, base int, sent int, room int) impl.Out {
	return impl.Out{Text: text, Base: base, Sent: sent, Room: room}
}

// onOut calls f with o and text and checks that f returns want in new memory.
func onOut(t *testing.T, what string, o impl.Out, text string, want impl.Out, f func(o impl.Out, text string) impl.Out) {
	t.Helper()
	given, givenText := newOut(o), strings.Clone(text)
	got := f(given, givenText)
	if got != want {
		t.Errorf("%s of %#v = %#v; want %#v", what, o, got, want)
	}
	if given != o || givenText != text {
		t.Errorf("%s of %#v has changed its argument to %#v", what, o, given)
	}
	wantNewTexts(t, what, []string{given.Text, givenText}, []string{got.Text})
}

func wantAccept(t *testing.T, o impl.Out, text string, want impl.Out, many int) {
	t.Helper()
	onOut(t, "Accept", o, text, want, func(o impl.Out, text string) impl.Out {
		longer, got := impl.Accept(o, text)
		if got != many {
			t.Errorf("Accept(%#v, %q) accepts %d bytes; want %d", o, text, got, many)
		}
		return longer
	})
}

// wantNext checks NextPiece, and WasSent, which must add as many bytes.
func wantNext(t *testing.T, o impl.Out, text string) {
	t.Helper()
	want, wantOk := impl.Piece{}, false
	if text != "" {
		want, wantOk = impl.Piece{At: o.Sent, Text: text}, true
	}
	given := newOut(o)
	got, ok := impl.NextPiece(given)
	if got != want || ok != wantOk || given != o {
		t.Errorf("NextPiece(%#v) = %#v, %v; want %#v, %v", o, got, ok, want, wantOk)
	}
	wantNewTexts(t, "NextPiece", []string{given.Text}, []string{got.Text})
	later := o
	later.Sent += len(text)
	onOut(t, "WasSent", o, "", later, func(o impl.Out, _ string) impl.Out { return impl.WasSent(o) })
}

func wantCame(t *testing.T, o impl.Out, upto int, want impl.Out) {
	t.Helper()
	onOut(t, "Came", o, "", want, func(o impl.Out, _ string) impl.Out { return impl.Came(o, upto) })
}

// wantNoCame checks that Came returns o unchanged.
func wantNoCame(t *testing.T, o impl.Out, upto int) {
	t.Helper()
	wantCame(t, o, upto, o)
}

func wantAnew(t *testing.T, o impl.Out, want impl.Out) {
	t.Helper()
	onOut(t, "Anew", o, "", want, func(o impl.Out, _ string) impl.Out { return impl.Anew(o) })
}

func wantOutOk(t *testing.T, o impl.Out, want bool) {
	t.Helper()
	if got := impl.OutOk(o); got != want {
		t.Errorf("OutOk(%#v) is %v", o, got)
	}
	if got := tableOutOk(o); got != want {
		t.Errorf("the tests say %v of %#v", got, o)
	}
}

// wantInvalidOut checks that no function does anything with an o that is not valid.
func wantInvalidOut(t *testing.T, o impl.Out) {
	t.Helper()
	wantOutOk(t, o, false)
	for _, text := range []string{"", "x", "xyz", sampleText(mostHeld), sampleText(mostHeld + 1)} {
		wantAccept(t, o, text, o, 0)
	}
	wantNext(t, o, "")
	for _, near := range []int{0, o.Base, o.Sent, o.Base + len(o.Text), mostPosition, math.MinInt, math.MaxInt} {
		for upto := near - 2; upto <= near+2 && upto >= near-2; upto++ {
			wantNoCame(t, o, upto)
		}
		wantNoCame(t, o, near)
	}
	wantAnew(t, o, o)
}

// tableOutOk is OutOk, from the differences between the fields, which are compared only if they are small.
func tableOutOk(o impl.Out) bool {
	switch {
	case o.Base < 0, o.Base > mostPosition, o.Room < 1, o.Room > mostHeld:
		return false
	case len(o.Text) > o.Room:
		return false
	case o.Sent < 0, o.Sent > mostPosition+mostHeld:
		return false
	}
	return o.Sent-o.Base >= 0 && o.Sent-o.Base <= len(o.Text)
}

// tableAccept is Accept, byte by byte.
func tableAccept(o impl.Out, text string) (impl.Out, int) {
	longer, many := o, 0
	for tableOutOk(o) && many < len(text) && len(longer.Text) < o.Room {
		longer.Text += string([]byte{text[many]})
		many++
	}
	if longer.Base+len(longer.Text) > mostPosition {
		return o, 0
	}
	return longer, many
}

// tableNext returns the text of NextPiece, byte by byte.
func tableNext(o impl.Out) string {
	text := ""
	for i := range len(o.Text) {
		if tableOutOk(o) && o.Base+i >= o.Sent && len(text) < mostSent {
			text += string([]byte{o.Text[i]})
		}
	}
	return text
}

// tableCame is Came, byte by byte: each byte before upto is removed from the text if all bytes before upto are there.
func tableCame(o impl.Out, upto int) impl.Out {
	shorter := o
	for tableOutOk(o) && shorter.Base < upto && shorter.Text != "" {
		shorter.Text = shorter.Text[1:]
		shorter.Base++
	}
	if !tableOutOk(o) || shorter.Base != upto {
		return o
	}
	for shorter.Sent < shorter.Base {
		shorter.Sent++
	}
	return shorter
}

func tableAnew(o impl.Out) impl.Out {
	for tableOutOk(o) && o.Sent > o.Base {
		o.Sent--
	}
	return o
}

// wantTableOut checks all functions of o against the second version.
func wantTableOut(t *testing.T, o impl.Out, text string, upto int) {
	t.Helper()
	wantOutOk(t, o, tableOutOk(o))
	longer, many := tableAccept(o, text)
	wantAccept(t, o, text, longer, many)
	wantNext(t, o, tableNext(o))
	wantCame(t, o, upto, tableCame(o, upto))
	wantAnew(t, o, tableAnew(o))
}

// validOuts are buffers that are valid.
func validOuts() []impl.Out {
	full := sampleText(mostHeld)
	return []impl.Out{
		out("", 0, 0, 1),
		out("", 0, 0, mostHeld),
		out("x", 0, 0, 1),
		out("x", 0, 1, 1),
		out("x", mostPosition, mostPosition+1, 1),
		out("", mostPosition, mostPosition, 1),
		out("", 7, 7, 25),
		out("abcdef", 7, 7, 25),
		out("abcdef", 7, 10, 25),
		out("abcdef", 7, 13, 6),
		out("abcdef", mostPosition, mostPosition, 6),
		out(full, 0, 0, mostHeld),
		out(full, 7, 20, mostHeld),
		out(full, 7, 207, mostHeld),
		out(full, mostPosition, mostPosition+mostHeld, mostHeld),
		out(full[:199], mostPosition-3, mostPosition+150, 199),
	}
}

// invalidOuts are buffers that are not valid, for one reason each.
func invalidOuts() []impl.Out {
	full := sampleText(mostHeld)
	buffers := []impl.Out{
		{},
		out("abcdef", 7, 7, 5),
		out("x", 7, 7, 0),
		out("ab", 7, 7, 1),
		out("", 7, 6, 25),
		out("", 7, 8, 25),
		out("", 0, -1, 25),
		out("", 0, 1, 25),
		out("abcdef", 7, 6, 25),
		out("abcdef", 7, 0, 25),
		out("abcdef", 7, -1, 25),
		out("abcdef", 0, -1, 25),
		out("abcdef", 7, 14, 25),
		out("abcdef", 7, math.MinInt, 25),
		out("abcdef", 7, math.MaxInt, 25),
		out("abcdef", mostPosition, mostPosition+7, 25),
		out("abcdef", mostPosition, mostPosition-1, 25),
		out(full, 7, 208, mostHeld),
		out(full, 7, 6, mostHeld),
		out(full, 7, 7, mostHeld-1),
		out(full, 7, 7, mostHeld+1),
		out(full+"x", 7, 7, mostHeld),
		out(full+"x", 7, 7, mostHeld+1),
		out(sampleText(5000), 7, 7, mostHeld),
	}
	for _, room := range []int{0, -1, -2, -25, mostHeld + 1, mostHeld + 2, 1000, 1 << 32, 1<<32 + 5, math.MinInt, math.MaxInt} {
		buffers = append(buffers, out("", 7, 7, room), out("abcdef", 7, 10, room), out("", 0, 0, room))
	}
	for _, base := range []int{-1, -3, -6, -7, -mostPosition, mostPosition + 1, mostPosition + 2, 1 << 32, math.MinInt, math.MaxInt - 6} {
		buffers = append(buffers, out("", base, base, 25), out("abcdef", base, base, 25), out("abcdef", base, base+3, 25), out("abcdef", base, base+6, 25))
	}
	// The position of the end is too large for an int.
	return append(buffers, out("abcdef", math.MaxInt, math.MaxInt, 25), out("abcdef", math.MaxInt-2, math.MinInt, 25), out("", math.MaxInt, math.MaxInt, 25))
}

func TestOutLimits(t *testing.T) {
	if impl.PieceSize != mostSent {
		t.Errorf("PieceSize is %d", impl.PieceSize)
	}
}

func TestValidOuts(t *testing.T) {
	for _, o := range validOuts() {
		wantOutOk(t, o, true)
	}
}

func TestInvalidOuts(t *testing.T) {
	for _, o := range invalidOuts() {
		wantInvalidOut(t, o)
	}
}

func TestOutOkOfBaseAtItsLimits(t *testing.T) {
	for _, base := range []int{0, 1, mostPosition - 1, mostPosition} {
		for _, sent := range []int{0, 1, 3} {
			wantOutOk(t, out("abc", base, base+sent, 25), true)
		}
		wantOutOk(t, out("", base, base, 25), true)
	}
	for _, base := range []int{-1, -2, -3, -4, mostPosition + 1, mostPosition + 2, math.MinInt, math.MaxInt - 3} {
		for _, sent := range []int{0, 1, 3} {
			wantOutOk(t, out("abc", base, base+sent, 25), false)
		}
		wantOutOk(t, out("", base, base, 25), false)
		wantOutOk(t, out("abc", base, 0, 25), false)
		wantOutOk(t, out("abc", base, mostPosition, 25), false)
	}
}

func TestOutOkOfEveryRoomAndText(t *testing.T) {
	for room := -3; room <= mostHeld+60; room++ {
		for _, size := range []int{0, 1, 2, room - 1, room, room + 1, mostHeld - 1, mostHeld, mostHeld + 1} {
			if size < 0 {
				continue
			}
			text := sampleText(size)
			ok := room >= 1 && room <= mostHeld && size <= room
			wantOutOk(t, out(text, 0, 0, room), ok)
			wantOutOk(t, out(text, 31, 31+size, room), ok)
			wantOutOk(t, out(text, mostPosition, mostPosition+size/2, room), ok)
		}
	}
}

func TestOutOkOfEverySent(t *testing.T) {
	for _, base := range []int{0, 1, 50, mostPosition} {
		for _, size := range []int{0, 1, 2, 19, 20, 21, mostHeld} {
			for sent := base - 5; sent <= base+size+5; sent++ {
				wantOutOk(t, out(sampleText(size), base, sent, mostHeld), sent >= base && sent <= base+size)
			}
		}
	}
}

func TestAcceptOfKnownTexts(t *testing.T) {
	for _, known := range []struct {
		o    impl.Out
		text string
		want string
		many int
	}{
		{out("", 0, 0, 25), "", "", 0},
		{out("", 0, 0, 25), "abc", "abc", 3},
		{out("abc", 0, 0, 25), "", "abc", 0},
		{out("abc", 5, 6, 25), "def", "abcdef", 3},
		{out("abc", 5, 8, 6), "def", "abcdef", 3},
		{out("abc", 5, 8, 6), "defg", "abcdef", 3},
		{out("abc", 5, 8, 6), "defghijklm", "abcdef", 3},
		{out("abc", 5, 8, 4), "defg", "abcd", 1},
		{out("abc", 5, 8, 3), "defg", "abc", 0},
		{out("abc", 5, 8, 3), "", "abc", 0},
		{out("", 5, 5, 1), "defg", "d", 1},
		{out("x\x00", 5, 5, 5), "\xff\x00\x80yz", "x\x00\xff\x00\x80", 3},
	} {
		want := known.o
		want.Text = known.want
		wantOutOk(t, known.o, true)
		wantAccept(t, known.o, known.text, want, known.many)
	}
}

func TestAcceptOfEveryRoomAndText(t *testing.T) {
	whole := sampleText(500)
	for _, room := range []int{1, 2, 25, 199, 200} {
		for _, size := range []int{0, 1, room / 2, room - 1, room} {
			for _, many := range []int{0, 1, room - size - 1, room - size, room - size + 1, room, room + 1, mostHeld + 1, 300} {
				if many >= 0 {
					taken := min(many, room-size)
					wantAccept(t, out(whole[:size], 40, 40, room), whole[size:size+many], out(whole[:size+taken], 40, 40, room), taken)
				}
			}
		}
	}
	wantAccept(t, out("ab", 9, 10, 5), sampleText(5000), out("ab"+sampleText(5000)[:3], 9, 10, 5), 3)
}

// The bytes that would be accepted count, even if fewer of them would be below the limit.
func TestAcceptUpToTheLargestPosition(t *testing.T) {
	for below := range 12 {
		for size := range 5 {
			for many := range 12 {
				for _, room := range []int{5, 8, 100} {
					base, old, text := mostPosition-below, "abcd"[:size], "0123456789ab"[:many]
					o, taken := out(old, base, base, room), min(many, room-size)
					if size+taken > below {
						wantAccept(t, o, text, o, 0)
					} else {
						wantAccept(t, o, text, out(old+text[:taken], base, base, room), taken)
					}
				}
			}
		}
	}
	full := sampleText(mostHeld)
	wantAccept(t, out("", mostPosition-200, mostPosition-200, 200), full, out(full, mostPosition-200, mostPosition-200, 200), 200)
	wantAccept(t, out("", mostPosition-199, mostPosition-199, 200), full, out("", mostPosition-199, mostPosition-199, 200), 0)
	wantAccept(t, out("", mostPosition-199, mostPosition-199, 199), full, out(full[:199], mostPosition-199, mostPosition-199, 199), 199)
}

func TestNextPieceOfEverySize(t *testing.T) {
	whole := sampleText(mostHeld)
	for _, base := range []int{0, 1, 40, mostPosition} {
		for size := range mostHeld + 1 {
			for _, sent := range []int{0, 1, size / 2, size - mostSent - 1, size - mostSent, size - mostSent + 1, size - 1, size} {
				if sent >= 0 && sent <= size {
					wantNext(t, out(whole[:size], base, base+sent, mostHeld), whole[sent:min(size, sent+mostSent)])
				}
			}
		}
	}
}

func TestNextPieceOfKnownBuffers(t *testing.T) {
	letters := "abcdefghijklmnopqrstuvwxyz"
	for _, known := range []struct {
		o    impl.Out
		text string
	}{
		{out("", 0, 0, 25), ""},
		{out("abc", 0, 0, 25), "abc"},
		{out("abc", 0, 1, 25), "bc"},
		{out("abc", 0, 2, 25), "c"},
		{out("abc", 0, 3, 25), ""},
		{out("abc", 9, 11, 25), "c"},
		{out("abc", mostPosition, mostPosition+2, 3), "c"},
		{out(letters[:19], 5, 5, 26), letters[:19]},
		{out(letters[:20], 5, 5, 26), letters[:20]},
		{out(letters[:21], 5, 5, 26), letters[:20]},
		{out(letters, 5, 10, 26), letters[5:25]},
		{out(letters, 5, 11, 26), letters[6:]},
		{out(letters, 5, 12, 26), letters[7:]},
		{out("\x00\xff", 5, 5, 26), "\x00\xff"},
	} {
		wantOutOk(t, known.o, true)
		wantNext(t, known.o, known.text)
	}
}

func TestCameOfKnownPositions(t *testing.T) {
	o := out("abcdef", 10, 13, 25)
	wantOutOk(t, o, true)
	for _, known := range []struct {
		upto int
		want impl.Out
	}{
		{11, out("bcdef", 11, 13, 25)},
		{12, out("cdef", 12, 13, 25)},
		{13, out("def", 13, 13, 25)},
		// These bytes were not sent.
		{14, out("ef", 14, 14, 25)},
		{15, out("f", 15, 15, 25)},
		{16, out("", 16, 16, 25)},
	} {
		wantCame(t, o, known.upto, known.want)
	}
	for _, upto := range []int{10, 9, 7, 6, 5, 3, 1, 0, -1, -10, math.MinInt, math.MinInt + 10, 17, 18, 26, 35, 1 << 32, 1<<32 + 11, mostPosition, math.MaxInt - 10, math.MaxInt} {
		wantNoCame(t, o, upto)
	}
}

func TestCameOfEveryPosition(t *testing.T) {
	whole := sampleText(mostHeld)
	for _, base := range []int{0, 1, 50, mostPosition - 300} {
		for _, size := range []int{0, 1, 2, 20, 150, mostHeld} {
			for _, sent := range []int{0, 1, size / 2, size} {
				if sent > size {
					continue
				}
				o := out(whole[:size], base, base+sent, mostHeld)
				for upto := base - 30; upto <= base+size+30; upto++ {
					if came := upto - base; came > 0 && came <= size {
						wantCame(t, o, upto, out(whole[came:size], upto, max(base+sent, upto), mostHeld))
					} else {
						wantNoCame(t, o, upto)
					}
				}
			}
		}
	}
}

// The document limits upto only by the end of the text, so that Base may come behind MaxNumber, where the buffer is not valid any more.
func TestCameBehindTheLargestBase(t *testing.T) {
	o := out("abc", mostPosition-1, mostPosition-1, 25)
	wantCame(t, o, mostPosition, out("bc", mostPosition, mostPosition, 25))
	wantCame(t, o, mostPosition+1, out("c", mostPosition+1, mostPosition+1, 25))
	wantCame(t, o, mostPosition+2, out("", mostPosition+2, mostPosition+2, 25))
	wantNoCame(t, o, mostPosition+3)
	wantInvalidOut(t, impl.Came(o, mostPosition+1))
	wantNoCame(t, out("", mostPosition, mostPosition, 25), mostPosition+1)
}

func TestAnewOfEverySent(t *testing.T) {
	whole := sampleText(mostHeld)
	for _, base := range []int{0, 1, 50, mostPosition} {
		for _, size := range []int{0, 1, 2, 21, mostHeld} {
			for sent := range size + 1 {
				wantAnew(t, out(whole[:size], base, base+sent, mostHeld), out(whole[:size], base, base, mostHeld))
			}
		}
	}
}

// Promise 10, step by step.
func TestSendsInOrderAndAgain(t *testing.T) {
	letters := "abcdefghijklmnopqrstuvwxyz0123456789ABCDEFGHIJ"
	o, many := impl.Accept(out("", 0, 0, 45), letters)
	if many != 45 {
		t.Fatalf("%d bytes were accepted", many)
	}
	for _, from := range []int{0, 20, 40} {
		wantNext(t, o, letters[from:min(from+20, 45)])
		o = impl.WasSent(o)
	}
	wantNext(t, o, "")
	// Nothing was acknowledged, so that everything is sent again.
	o = impl.Anew(o)
	wantNext(t, o, letters[:20])
	o = impl.Came(impl.WasSent(o), 15)
	wantNext(t, o, letters[20:40])
	// What was acknowledged is not sent again.
	o = impl.Anew(o)
	wantNext(t, o, letters[15:35])
	// An acknowledgment of bytes that were not sent in this round goes on behind them.
	o = impl.Came(impl.WasSent(o), 38)
	wantNext(t, o, letters[38:45])
	o, many = impl.Accept(o, letters[45:])
	if many != 1 {
		t.Fatalf("%d bytes were accepted", many)
	}
	wantNext(t, o, letters[38:])
	o = impl.Came(o, 46)
	if o != out("", 46, 46, 45) {
		t.Errorf("at the end the buffer is %#v", o)
	}
}

// Whatever is lost, the pieces give the text that was written, and each piece has the bytes that belong at its place.
func TestSendsWithLossesGiveTheWholeText(t *testing.T) {
	random := rand.New(rand.NewSource(10))
	for range 400 {
		whole := sampleText(random.Intn(600))
		start := random.Intn(3) * random.Intn(1000)
		o := out("", start, start, 1+random.Intn(mostHeld))
		written, received, rounds := 0, 0, 0
		for ; received < len(whole) && rounds < 20000; rounds++ {
			longer, many := impl.Accept(o, whole[written:])
			o, written = longer, written+many
			piece, ok := impl.NextPiece(o)
			if ok && whole[piece.At-start:piece.At-start+len(piece.Text)] != piece.Text {
				t.Fatalf("the piece %#v has other bytes than %q", piece, whole)
			}
			o = impl.WasSent(o)
			// A receiver that accepts only the byte it waits for.
			if ok && random.Intn(2) == 0 && piece.At-start <= received {
				received = max(received, piece.At-start+len(piece.Text))
			}
			if random.Intn(3) == 0 {
				o = impl.Came(o, start+received)
			}
			if !ok {
				o = impl.Anew(o)
			}
		}
		o = impl.Came(o, start+received)
		if received != len(whole) || o.Text != "" || o.Base != start+len(whole) || o.Sent != o.Base {
			t.Fatalf("after %d rounds %d of %d bytes are received, and the buffer is %#v", rounds, received, len(whole), o)
		}
	}
}

// All small buffers, valid or not, with all small texts and positions.
func TestOutOfAllSmallBuffers(t *testing.T) {
	for base := -2; base <= 3; base++ {
		for sent := -3; sent <= 8; sent++ {
			for room := -1; room <= 5; room++ {
				for size := range 6 {
					for upto := -3; upto <= 9; upto++ {
						wantTableOut(t, out("abcdef"[:size], base, sent, room), "uvwxyz"[:max(0, upto)%6], upto)
					}
				}
			}
		}
	}
}

func TestOutOfRandomBuffers(t *testing.T) {
	random := rand.New(rand.NewSource(11))
	for range 20000 {
		room := 1 + random.Intn(mostHeld)
		base := random.Intn(300)
		if random.Intn(2) == 0 {
			base = mostPosition - base
		}
		size := random.Intn(room + 1)
		sent := base + random.Intn(size+1)
		upto := base - 3 + random.Intn(size+6)
		o := out(sampleText(size), base, sent, room)
		if random.Intn(8) == 0 {
			o.Sent += random.Intn(400) - 200
		}
		wantTableOut(t, o, sampleText(random.Intn(mostHeld+9)), upto)
	}
}

// Each result belongs to the caller alone: no two results share memory.
func TestOutsReturnNewMemory(t *testing.T) {
	calls := map[string]func(o impl.Out) string{
		"Accept":                 func(o impl.Out) string { longer, _ := impl.Accept(o, "new"); return longer.Text },
		"Accept of no bytes":     func(o impl.Out) string { longer, _ := impl.Accept(o, ""); return longer.Text },
		"NextPiece":              func(o impl.Out) string { piece, _ := impl.NextPiece(o); return piece.Text },
		"WasSent":                func(o impl.Out) string { return impl.WasSent(o).Text },
		"Came":                   func(o impl.Out) string { return impl.Came(o, o.Base+1).Text },
		"Came that is not taken": func(o impl.Out) string { return impl.Came(o, o.Base).Text },
		"Anew":                   func(o impl.Out) string { return impl.Anew(o).Text },
	}
	for _, o := range append(validOuts(), invalidOuts()...) {
		for name, call := range calls {
			given := newOut(o)
			wantNewTexts(t, name, []string{given.Text}, []string{call(given), call(given)})
		}
	}
}
