package tests

import (
	"math"
	"math/rand"
	"slices"
	"strings"
	"testing"

	"loop.example/g00967/impl"
)

// The limits of a stream that is received, as the document states them.
const (
	mostHeld   = 200
	mostPieces = 20
	mostStart  = 2 * mostPosition
)

// newPieces returns p with its texts and its list in new memory, and as many elements of spare capacity behind the list.
func newPieces(p impl.Pieces, spare int) impl.Pieces {
	list := make([]impl.Piece, 0, len(p.List)+spare)
	for _, piece := range p.List {
		list = append(list, impl.Piece{At: piece.At, Text: strings.Clone(piece.Text)})
	}
	for i := range spare {
		list = append(list, impl.Piece{At: 7 + i, Text: strings.Clone("spare")})
	}
	return impl.Pieces{Read: p.Read, Ready: strings.Clone(p.Ready), List: list[:len(p.List)]}
}

func samePieces(a impl.Pieces, b impl.Pieces) bool {
	return a.Read == b.Read && a.Ready == b.Ready && slices.Equal(a.List, b.List)
}

// textsOf returns all texts of p, those behind its list too.
func textsOf(p impl.Pieces) []string {
	texts := []string{p.Ready}
	for _, piece := range p.List[:cap(p.List)] {
		texts = append(texts, piece.Text)
	}
	return texts
}

// wantNewTexts checks that no text of a result is in the memory of an argument, or of another text of the result.
func wantNewTexts(t *testing.T, what string, given []string, got []string) {
	t.Helper()
	for i, text := range got {
		for _, other := range slices.Concat(given, got[:i]) {
			if sharesMemory(text, other) {
				t.Errorf("%s shares the memory of %q", what, text)
			}
		}
	}
}

// onPieces calls f with p and text, without and with spare capacity, and checks that f leaves both alone and returns want and taken in new memory.
func onPieces(t *testing.T, what string, p impl.Pieces, text string, want impl.Pieces, taken string, f func(p impl.Pieces, text string) (impl.Pieces, string)) {
	t.Helper()
	for _, spare := range []int{0, 3} {
		given, givenText := newPieces(p, spare), strings.Clone(text)
		got, gotTaken := f(given, givenText)
		if !samePieces(got, want) || gotTaken != taken {
			t.Errorf("%s of %v and %q = %v, %q; want %v, %q", what, p, text, got, gotTaken, want, taken)
		}
		if sharesElements(got.List, given.List) {
			t.Errorf("%s of %v and %q shares a list with its argument", what, p, text)
		}
		wantNewTexts(t, what, append(textsOf(given), givenText), append(textsOf(got), gotTaken))
		kept := newPieces(p, spare)
		if !samePieces(given, kept) || !slices.Equal(given.List[:cap(given.List)], kept.List[:cap(kept.List)]) {
			t.Errorf("%s of %v and %q has changed its argument to %v", what, p, text, given.List[:cap(given.List)])
		}
	}
}

func wantPut(t *testing.T, p impl.Pieces, at int, text string, want impl.Pieces) {
	t.Helper()
	onPieces(t, "PutPiece", p, text, want, "", func(p impl.Pieces, text string) (impl.Pieces, string) {
		return impl.PutPiece(p, at, text), ""
	})
}

// wantPutOk checks PutPiece of two streams that must be valid.
func wantPutOk(t *testing.T, p impl.Pieces, at int, text string, want impl.Pieces) {
	t.Helper()
	wantPiecesOk(t, p, true)
	wantPiecesOk(t, want, true)
	wantPut(t, p, at, text, want)
}

// wantNoPut checks that PutPiece returns p unchanged.
func wantNoPut(t *testing.T, p impl.Pieces, at int, text string) {
	t.Helper()
	wantPut(t, p, at, text, p)
}

func wantTake(t *testing.T, p impl.Pieces, many int, want impl.Pieces, taken string) {
	t.Helper()
	onPieces(t, "TakeReady", p, "", want, taken, func(p impl.Pieces, _ string) (impl.Pieces, string) {
		return impl.TakeReady(p, many)
	})
}

func wantNoTake(t *testing.T, p impl.Pieces, many int) {
	t.Helper()
	wantTake(t, p, many, p, "")
}

// wantPiecesOk checks PiecesOk, and NextOf and HeldOf, which count whatever p is.
func wantPiecesOk(t *testing.T, p impl.Pieces, want bool) {
	t.Helper()
	next, held := p.Read+len(p.Ready), len(strings.Join(textsOf(newPieces(p, 0)), ""))
	onPieces(t, "PiecesOk", p, "", impl.Pieces{}, "", func(p impl.Pieces, _ string) (impl.Pieces, string) {
		if got := impl.PiecesOk(p); got != want {
			t.Errorf("PiecesOk(%v) is %v", p, got)
		}
		if got := impl.NextOf(p); got != next {
			t.Errorf("NextOf(%v) = %d; want %d", p, got, next)
		}
		if got := impl.HeldOf(p); got != held {
			t.Errorf("HeldOf(%v) = %d; want %d", p, got, held)
		}
		return impl.Pieces{}, ""
	})
}

// wantInvalidPieces checks all functions of a p that is not valid.
func wantInvalidPieces(t *testing.T, p impl.Pieces) {
	t.Helper()
	wantPiecesOk(t, p, false)
	for _, many := range []int{math.MinInt, -1, 0, 1, 2, len(p.Ready), mostHeld, math.MaxInt} {
		wantNoTake(t, p, many)
	}
	next := p.Read + len(p.Ready)
	for _, at := range []int{0, 1, next - 1, next, next + 1, 9, 500, mostPosition} {
		for _, text := range []string{"", "x", "xyz", sampleText(30)} {
			wantNoPut(t, p, at, text)
		}
	}
	for _, piece := range p.List {
		wantNoPut(t, p, piece.At, "x")
		wantNoPut(t, p, piece.At-1, "xyz")
		wantNoPut(t, p, piece.At+len(piece.Text), "x")
	}
}

// stream returns the state behind read bytes, with the given pieces.
func stream(read int, ready string, list ...impl.Piece) impl.Pieces {
	return impl.Pieces{Read: read, Ready: ready, List: list}
}

func piece(at int, text string) impl.Piece {
	return impl.Piece{At: at, Text: text}
}

// rowOfPieces returns many pieces of size bytes from at on, with gap bytes between two.
func rowOfPieces(many int, at int, size int, gap int) []impl.Piece {
	list := make([]impl.Piece, many)
	for i := range list {
		list[i] = piece(at+i*(size+gap), sampleText(i + size)[i:])
	}
	return list
}

// changedPieces returns p with another piece at index i.
func changedPieces(p impl.Pieces, i int, other impl.Piece) impl.Pieces {
	p.List = slices.Clone(p.List)
	p.List[i] = other
	return p
}

// tablePiecesOk is PiecesOk, from each pair of pieces. The numbers must be small enough to be added.
func tablePiecesOk(p impl.Pieces) bool {
	held := len(p.Ready)
	for i, behind := range p.List {
		if behind.Text == "" || behind.At > mostStart || behind.At <= p.Read+len(p.Ready) {
			return false
		}
		for _, before := range p.List[:i] {
			if before.At+len(before.Text)+1 > behind.At {
				return false
			}
		}
		held += len(behind.Text)
	}
	return p.Read >= 0 && p.Read <= mostPosition && len(p.List) <= mostPieces && held <= mostHeld
}

// bytesOf returns each byte that p holds, by its position.
func bytesOf(p impl.Pieces) map[int]byte {
	held := map[int]byte{}
	for _, part := range append(slices.Clone(p.List), piece(p.Read, p.Ready)) {
		for i := range len(part.Text) {
			held[part.At+i] = part.Text[i]
		}
	}
	return held
}

// streamOf returns the state behind read bytes that holds the given bytes: those that are in a row are in one text.
func streamOf(read int, held map[int]byte) impl.Pieces {
	var places []int
	for at := range held {
		places = append(places, at)
	}
	slices.Sort(places)
	p := impl.Pieces{Read: read}
	for _, at := range places {
		last := len(p.List) - 1
		switch {
		case at == read+len(p.Ready):
			p.Ready += string([]byte{held[at]})
		case last >= 0 && at == p.List[last].At+len(p.List[last].Text):
			p.List[last].Text += string([]byte{held[at]})
		default:
			p.List = append(p.List, piece(at, string([]byte{held[at]})))
		}
	}
	return p
}

// tablePutPiece is PutPiece, byte by byte.
func tablePutPiece(p impl.Pieces, at int, text string) impl.Pieces {
	if !tablePiecesOk(p) || at < 0 || at > mostPosition || len(text) > mostHeld {
		return p
	}
	held := bytesOf(p)
	for i := range len(text) {
		if _, ok := held[at+i]; !ok && at+i >= p.Read {
			held[at+i] = text[i]
		}
	}
	if longer := streamOf(p.Read, held); tablePiecesOk(longer) {
		return longer
	}
	return p
}

func wantTablePutPiece(t *testing.T, p impl.Pieces, at int, text string) {
	t.Helper()
	want := tablePutPiece(p, at, text)
	if got := impl.PutPiece(p, at, text); !samePieces(got, want) {
		t.Errorf("PutPiece(%v, %d, %q) = %v; want %v", p, at, text, got, want)
	}
}

// validPieces are states that are valid.
func validPieces() []impl.Pieces {
	full := sampleText(mostHeld)
	return []impl.Pieces{
		{},
		{List: []impl.Piece{}},
		stream(0, "abc"),
		stream(5, "abc"),
		stream(mostPosition, ""),
		stream(mostPosition, full),
		stream(0, "", piece(1, "x")),
		stream(0, "abc", piece(4, "x")),
		stream(5, "abc", piece(9, "xyz"), piece(13, "uvw"), piece(100, "r")),
		stream(0, "", piece(mostStart, full)),
		stream(mostPosition, "", piece(mostPosition+1, "x"), piece(mostStart, "y")),
		stream(mostPosition, full[:198], piece(mostPosition+199, "x"), piece(mostStart, "y")),
		stream(0, full[:100], piece(101, full[100:])),
		stream(0, full[:1], rowOfPieces(19, 2, 10, 1)...),
		stream(7, "", rowOfPieces(20, 8, 10, 1)...),
		stream(7, full[:180], rowOfPieces(20, 188, 1, 1)...),
	}
}

// invalidPieces are states that are not valid, for one reason each.
func invalidPieces() []impl.Pieces {
	full := sampleText(mostHeld)
	states := []impl.Pieces{
		stream(5, "abc", piece(8, "xyz")),
		stream(5, "abc", piece(7, "xyz")),
		stream(5, "abc", piece(6, "x")),
		stream(5, "abc", piece(5, "abc")),
		stream(5, "abc", piece(4, "x")),
		stream(5, "abc", piece(0, "x")),
		stream(0, "", piece(0, "x")),
		stream(5, "abc", piece(-1, "x")),
		stream(5, "abc", piece(math.MinInt, "x")),
		stream(5, "abc", piece(10, "xyz"), piece(13, "u")),
		stream(5, "abc", piece(10, "xyz"), piece(12, "zu")),
		stream(5, "abc", piece(10, "xyz"), piece(11, "y")),
		stream(5, "abc", piece(10, "xyz"), piece(10, "xyz")),
		stream(5, "abc", piece(20, "xyz"), piece(10, "u")),
		stream(5, "abc", piece(10, "xyz"), piece(20, "u"), piece(19, "t"), piece(30, "v")),
		stream(5, "abc", piece(10, "xyz"), piece(20, "uvw"), piece(15, "t")),
		stream(5, "abc", piece(10, "xyz"), piece(-1, "u")),
		stream(5, "abc", piece(10, "")),
		stream(5, "abc", piece(10, ""), piece(20, "xyz")),
		stream(5, "abc", piece(10, "xyz"), piece(20, ""), piece(30, "xyz")),
		stream(5, "abc", piece(10, "xyz"), piece(20, "")),
		stream(5, "abc", piece(mostStart+1, "x")),
		stream(5, "abc", piece(10, "xyz"), piece(mostStart+1, "x")),
		stream(5, "abc", piece(mostStart, "x"), piece(mostStart+2, "x")),
		stream(5, "abc", piece(math.MaxInt, "x")),
		// The end of the first piece is too large for an int.
		stream(5, "abc", piece(math.MaxInt, "x"), piece(10, "x")),
		stream(5, "", rowOfPieces(21, 6, 1, 1)...),
		stream(5, "abc", rowOfPieces(21, 10, 9, 3)...),
		stream(5, "", rowOfPieces(90, 6, 1, 1)...),
		stream(5, full+"x"),
		stream(0, "", piece(1, full+"x")),
		stream(0, full, piece(201, "x")),
		stream(0, "x", piece(2, full)),
		stream(0, full[:100], piece(101, full[99:])),
		stream(0, "", piece(1, full[:100]), piece(102, full[99:])),
		stream(0, full[:1], rowOfPieces(20, 2, 10, 1)...),
		stream(0, sampleText(5000)),
	}
	for _, read := range []int{-1, -3, -5, -mostPosition, math.MinInt, mostPosition + 1, mostPosition + 2, 1 << 32, math.MaxInt} {
		states = append(states, stream(read, ""), stream(read, "", piece(10, "xyz")), stream(read, "", piece(mostPosition+10, "x")))
	}
	for _, read := range []int{-1, -3, math.MinInt, mostPosition + 1, math.MaxInt - 3} {
		states = append(states, stream(read, "abc"), stream(read, "abc", piece(mostPosition+10, "x")))
	}
	return states
}

func TestPieceLimits(t *testing.T) {
	if impl.BufBytes != mostHeld || impl.MaxPieces != mostPieces {
		t.Errorf("BufBytes is %d and MaxPieces is %d", impl.BufBytes, impl.MaxPieces)
	}
}

func TestValidPieces(t *testing.T) {
	for _, p := range validPieces() {
		wantPiecesOk(t, p, true)
		if !tablePiecesOk(p) {
			t.Errorf("the tests take %v for invalid", p)
		}
	}
}

func TestInvalidPieces(t *testing.T) {
	for _, p := range invalidPieces() {
		wantInvalidPieces(t, p)
	}
}

func TestNextOfAndHeldOfKnownStates(t *testing.T) {
	for _, known := range []struct {
		p          impl.Pieces
		next, held int
	}{
		{stream(0, ""), 0, 0},
		{stream(0, "abc"), 3, 3},
		{stream(5, "abc", piece(10, "xyz"), piece(20, "u")), 8, 7},
		{stream(mostPosition, "ab"), mostPosition + 2, 2},
		// These are not valid.
		{stream(-7, "abc"), -4, 3},
		{stream(-3, "abc"), 0, 3},
		{stream(mostPosition+1, "ab"), mostPosition + 3, 2},
		{stream(math.MaxInt, ""), math.MaxInt, 0},
		{stream(math.MinInt, "ab"), math.MinInt + 2, 2},
		{stream(5, "abc", piece(8, "xyz"), piece(7, "xyz"), piece(7, "xyz")), 8, 12},
		{stream(5, "", piece(1, ""), piece(-1, "u"), piece(math.MaxInt, "vw")), 5, 3},
		{stream(5, sampleText(300), piece(1, sampleText(400))), 305, 700},
		{stream(1, "a", rowOfPieces(50, 2, 7, 0)...), 2, 351},
	} {
		if next, held := impl.NextOf(known.p), impl.HeldOf(known.p); next != known.next || held != known.held {
			t.Errorf("NextOf and HeldOf of %v are %d and %d; want %d and %d", known.p, next, held, known.next, known.held)
		}
	}
}

func TestPiecesOkOfReadAtItsLimits(t *testing.T) {
	for _, read := range []int{0, 1, mostPosition - 1, mostPosition} {
		wantPiecesOk(t, stream(read, ""), true)
		wantPiecesOk(t, stream(read, "abc"), true)
		wantPiecesOk(t, stream(read, "abc", piece(read+4, "x")), true)
	}
	for _, read := range []int{-1, -2, -3, -4, mostPosition + 1, mostPosition + 2, math.MinInt, math.MaxInt - 10} {
		wantPiecesOk(t, stream(read, ""), false)
		wantPiecesOk(t, stream(read, "abc"), false)
		wantPiecesOk(t, stream(read, "abc", piece(read+4, "x")), false)
		wantPiecesOk(t, stream(read, "abc", piece(mostStart, "x")), false)
	}
}

func TestPiecesOkOfEveryNumberOfPieces(t *testing.T) {
	for many := range 70 {
		for _, p := range []impl.Pieces{stream(0, "", rowOfPieces(many, 1, 1, 1)...), stream(9, "abc", rowOfPieces(many, 40, 2, 7)...)} {
			wantPiecesOk(t, p, many <= mostPieces)
		}
	}
	for _, many := range []int{256, 257, 276, 1000} {
		wantPiecesOk(t, stream(0, "", rowOfPieces(many, 1, 1, 1)...), false)
	}
}

// An empty piece is not valid at any place, also where it would not reach the next one.
func TestPiecesOkOfEmptyPieces(t *testing.T) {
	for _, many := range []int{1, 2, 3, 20} {
		p := stream(2, "ab", rowOfPieces(many, 10, 3, 5)...)
		wantPiecesOk(t, p, true)
		for i, old := range p.List {
			wantPiecesOk(t, changedPieces(p, i, piece(old.At, "")), false)
			wantPiecesOk(t, changedPieces(p, i, piece(old.At, "x")), true)
		}
	}
}

func TestPiecesOkOfAtAtItsLimits(t *testing.T) {
	for _, many := range []int{1, 2, 3, 20} {
		p := stream(2, "ab", rowOfPieces(many, 10, 3, 5)...)
		for at := mostStart - 2; at <= mostStart+2; at++ {
			for _, size := range []int{1, 2, 100} {
				wantPiecesOk(t, changedPieces(p, many-1, piece(at, sampleText(size))), at <= mostStart)
			}
		}
		for i := range p.List {
			for _, at := range []int{-1, -2, -mostStart, math.MinInt, mostStart + 1, 1 << 32, math.MaxInt, math.MaxInt - 2} {
				wantPiecesOk(t, changedPieces(p, i, piece(at, "xyz")), false)
			}
		}
	}
}

// The first piece may begin one byte behind NextOf, and neither there nor before.
func TestPiecesOkOfTheFirstPiece(t *testing.T) {
	for _, read := range []int{0, 1, 77, mostPosition} {
		for _, size := range []int{0, 1, 5, 150} {
			next := read + size
			for at := next - 8; at <= next+8; at++ {
				wantPiecesOk(t, stream(read, sampleText(size), piece(at, "x")), at > next)
				wantPiecesOk(t, stream(read, sampleText(size), piece(at, "xyz"), piece(next+20, "x")), at > next)
			}
		}
	}
}

// Two pieces must have a byte between them.
func TestPiecesOkOfPiecesThatTouchOrOverlap(t *testing.T) {
	for _, many := range []int{2, 3, 20} {
		p := stream(2, "ab", rowOfPieces(many, 10, 3, 6)...)
		for i := range many - 1 {
			before, behind := p.List[i], p.List[i+1]
			for size := 1; size <= 14; size++ {
				wantPiecesOk(t, changedPieces(p, i, piece(before.At, sampleText(size))), before.At+size < behind.At)
			}
			for at := before.At - 4; at <= behind.At; at++ {
				wantPiecesOk(t, changedPieces(p, i+1, piece(at, "xyz")), at > before.At+3)
			}
			wantPiecesOk(t, changedPieces(changedPieces(p, i, behind), i+1, before), false)
		}
	}
}

// BufBytes bytes are accepted, and one more is not, wherever they are.
func TestPiecesOkOfHeldBytes(t *testing.T) {
	for held := 190; held <= 210; held++ {
		ok := held <= mostHeld
		for _, ready := range []int{0, 1, 100, held - 1, held} {
			p := stream(3, sampleText(ready))
			if ready < held {
				p.List = []impl.Piece{piece(3+ready+1, sampleText(held-ready))}
			}
			wantPiecesOk(t, p, ok)
		}
		for _, ready := range []int{0, 1, 50} {
			first, rest := sampleText(100), sampleText(held-ready-100)
			wantPiecesOk(t, stream(3, sampleText(ready), piece(60, first), piece(161, rest)), ok)
			wantPiecesOk(t, stream(3, sampleText(ready), piece(60, first), piece(5000, rest[1:]), piece(70000, "x")), ok)
		}
	}
	for _, held := range []int{256, 257, 300, 456, 65536, 65537} {
		wantPiecesOk(t, stream(3, sampleText(held)), false)
		wantPiecesOk(t, stream(3, "", piece(9, sampleText(held))), false)
	}
}

// Promise 9, in the document's order of events: pieces that leave a gap, fill it, and overlap what is there.
func TestPutPieceOfKnownPieces(t *testing.T) {
	p := impl.Pieces{}
	for _, step := range []struct {
		at   int
		text string
		want impl.Pieces
	}{
		{3, "def", stream(0, "", piece(3, "def"))},
		{8, "ij", stream(0, "", piece(3, "def"), piece(8, "ij"))},
		{0, "abc", stream(0, "abcdef", piece(8, "ij"))},
		{2, "XXXXgh", stream(0, "abcdefghij")},
		{0, "Y", stream(0, "abcdefghij")},
		{12, "mno", stream(0, "abcdefghij", piece(12, "mno"))},
		{10, "kl", stream(0, "abcdefghijklmno")},
	} {
		wantPutOk(t, p, step.at, step.text, step.want)
		p = impl.PutPiece(p, step.at, step.text)
	}
}

// island has three pieces, with room before, between and behind them.
func island() impl.Pieces {
	return stream(5, "abc", piece(12, "DEF"), piece(18, "JKL"), piece(24, "PQR"))
}

// islandWith returns island with other pieces.
func islandWith(list ...impl.Piece) impl.Pieces {
	return stream(5, "abc", list...)
}

func TestPutPieceBesideOthers(t *testing.T) {
	first, second, third := piece(12, "DEF"), piece(18, "JKL"), piece(24, "PQR")
	for _, known := range []struct {
		at   int
		text string
		want impl.Pieces
	}{
		// It lies alone: before, between and behind the others, with one byte on each side.
		{9, "x", islandWith(piece(9, "x"), first, second, third)},
		{10, "x", islandWith(piece(10, "x"), first, second, third)},
		{9, "xy", islandWith(piece(9, "xy"), first, second, third)},
		{16, "x", islandWith(first, piece(16, "x"), second, third)},
		{22, "x", islandWith(first, second, piece(22, "x"), third)},
		{28, "xyz", islandWith(first, second, third, piece(28, "xyz"))},
		{5000, "xyz", islandWith(first, second, third, piece(5000, "xyz"))},
		// It touches the piece behind, the one before, and both.
		{11, "x", islandWith(piece(11, "xDEF"), second, third)},
		{9, "xyz", islandWith(piece(9, "xyzDEF"), second, third)},
		{15, "x", islandWith(piece(12, "DEFx"), second, third)},
		{15, "xy", islandWith(piece(12, "DEFxy"), second, third)},
		{16, "xy", islandWith(first, piece(16, "xyJKL"), third)},
		{17, "x", islandWith(first, piece(17, "xJKL"), third)},
		{21, "x", islandWith(first, piece(18, "JKLx"), third)},
		{23, "x", islandWith(first, second, piece(23, "xPQR"))},
		{27, "x", islandWith(first, second, piece(24, "PQRx"))},
		{15, "xyz", islandWith(piece(12, "DEFxyzJKL"), third)},
		{21, "xyz", islandWith(first, piece(18, "JKLxyzPQR"))},
	} {
		wantPutOk(t, island(), known.at, known.text, known.want)
	}
}

// Bytes that exist are kept where the new ones differ.
func TestPutPieceOverOthers(t *testing.T) {
	first, second, third := piece(12, "DEF"), piece(18, "JKL"), piece(24, "PQR")
	for _, known := range []struct {
		at   int
		text string
		want impl.Pieces
	}{
		// It overlaps one piece: from before it, from behind it, within it, and around it.
		{11, "xy", islandWith(piece(11, "xDEF"), second, third)},
		{10, "vwxy", islandWith(piece(10, "vwDEF"), second, third)},
		{14, "xy", islandWith(piece(12, "DEFy"), second, third)},
		{13, "vwxy", islandWith(piece(12, "DEFxy"), second, third)},
		{13, "x", island()},
		{12, "x", island()},
		{14, "x", island()},
		{12, "xyz", island()},
		{18, "xyz", island()},
		{25, "x", island()},
		{11, "vwxyz", islandWith(piece(11, "vDEFz"), second, third)},
		{17, "vwxyz", islandWith(first, piece(17, "vJKLz"), third)},
		{23, "vwxyz", islandWith(first, second, piece(23, "vPQRz"))},
		{12, "wxyz", islandWith(piece(12, "DEFz"), second, third)},
		{11, "wxyz", islandWith(piece(11, "wDEF"), second, third)},
		// It overlaps one piece and touches another one.
		{14, "wxyz", islandWith(piece(12, "DEFxyzJKL"), third)},
		{15, "wxyz", islandWith(piece(12, "DEFwxyJKL"), third)},
		// It overlaps two pieces, in parts and wholly.
		{14, "vwxyz", islandWith(piece(12, "DEFwxyJKL"), third)},
		{12, "123456789", islandWith(piece(12, "DEF456JKL"), third)},
		{11, "0123456789a", islandWith(piece(11, "0DEF456JKLa"), third)},
		{20, "vwxyz", islandWith(first, piece(18, "JKLwxyPQR"))},
		{17, "0123456789a", islandWith(first, piece(17, "0JKL456PQRa"))},
		// It overlaps all of them.
		{14, "12345678901", islandWith(piece(12, "DEF234JKL890PQR"))},
		{12, "123456789012345", islandWith(piece(12, "DEF456JKL012PQR"))},
		{9, "123456789012345678901", islandWith(piece(9, "123DEF789JKL345PQR901"))},
	} {
		wantPutOk(t, island(), known.at, known.text, known.want)
	}
}

func TestPutPieceAroundNextOf(t *testing.T) {
	first, second, third := piece(12, "DEF"), piece(18, "JKL"), piece(24, "PQR")
	ready := func(text string, list ...impl.Piece) impl.Pieces { return stream(5, text, list...) }
	for _, known := range []struct {
		at   int
		text string
		want impl.Pieces
	}{
		// It lies wholly before NextOf: in the bytes that were read, in Ready, and in both; or it ends there.
		{0, "x", island()},
		{0, "vwxyz", island()},
		{4, "x", island()},
		{5, "x", island()},
		{6, "x", island()},
		{3, "wxyz", island()},
		{5, "xyz", island()},
		{7, "x", island()},
		{0, "12345678", island()},
		// It begins before NextOf and ends behind it.
		{7, "xy", ready("abcy", first, second, third)},
		{5, "wxyz", ready("abcz", first, second, third)},
		{5, "123456", ready("abc456", first, second, third)},
		{0, "123456789", ready("abc9", first, second, third)},
		// It begins at NextOf.
		{8, "x", ready("abcx", first, second, third)},
		{8, "xyz", ready("abcxyz", first, second, third)},
		// Behind it the first piece begins at NextOf.
		{8, "wxyz", ready("abcwxyzDEF", second, third)},
		{8, "123456", ready("abc1234DEF", second, third)},
		{7, "12345", ready("abc2345DEF", second, third)},
		{0, "123456789012", ready("abc9012DEF", second, third)},
		{8, "1234567890", ready("abc1234DEF890JKL", third)},
		{8, "12345678901", ready("abc1234DEF890JKL", third)},
		{8, "123456789012345", ready("abc1234DEF890JKL45", third)},
		{8, "1234567890123456", ready("abc1234DEF890JKL456PQR")},
		{0, "123456789012345678901234567890", ready("abc9012DEF678JKL234PQR890")},
		// It begins behind NextOf, so that a gap remains.
		{9, "xyz", ready("abc", piece(9, "xyzDEF"), second, third)},
	} {
		wantPutOk(t, island(), known.at, known.text, known.want)
	}
}

func TestPutPieceIntoAnEmptyStream(t *testing.T) {
	for _, empty := range []impl.Pieces{{}, {List: []impl.Piece{}}} {
		wantPutOk(t, empty, 0, "abc", stream(0, "abc"))
		wantPutOk(t, empty, 1, "abc", stream(0, "", piece(1, "abc")))
		wantPutOk(t, empty, mostPosition, "abc", stream(0, "", piece(mostPosition, "abc")))
	}
	wantPutOk(t, stream(7, ""), 7, "abc", stream(7, "abc"))
	wantPutOk(t, stream(7, ""), 8, "abc", stream(7, "", piece(8, "abc")))
	wantPutOk(t, stream(7, ""), 6, "abc", stream(7, "bc"))
	wantPutOk(t, stream(7, ""), 4, "abc", stream(7, ""))
}

func TestPutPieceAtThePositionsAtTheirLimits(t *testing.T) {
	full := sampleText(mostHeld)
	for _, at := range []int{0, mostPosition - 1, mostPosition} {
		wantPutOk(t, stream(at, ""), at, "abc", stream(at, "abc"))
		wantPutOk(t, stream(at, ""), at, full, stream(at, full))
	}
	wantPutOk(t, stream(0, "ab"), mostPosition, full[2:], stream(0, "ab", piece(mostPosition, full[2:])))
	// Only where a text begins is limited: NextOf and the bytes themselves may be behind MaxNumber.
	wantPutOk(t, stream(mostPosition, full[:150]), mostPosition, full, stream(mostPosition, full))
	wantPutOk(t, stream(mostPosition-1, ""), mostPosition, "abc", stream(mostPosition-1, "", piece(mostPosition, "abc")))
	far := []impl.Piece{piece(mostPosition+4, "xyz"), piece(mostStart, "uvw")}
	wantPutOk(t, stream(mostPosition, "", far...), mostPosition, "abcd", stream(mostPosition, "abcdxyz", far[1]))
	for _, p := range []impl.Pieces{{}, stream(0, "abc", piece(9, "xyz")), stream(mostPosition, ""), stream(mostPosition, "abc", far...)} {
		for _, at := range []int{-1, -2, -3, -9, -mostPosition, math.MinInt, mostPosition + 1, mostPosition + 2, mostPosition + 3, mostStart, 1 << 32, math.MaxInt - 1, math.MaxInt} {
			for _, text := range []string{"x", "xyz", sampleText(20), full} {
				wantNoPut(t, p, at, text)
			}
		}
	}
}

func TestPutPieceOfTextsOfEveryLength(t *testing.T) {
	for size := range 420 {
		text := sampleText(size)
		ok := size >= 1 && size <= mostHeld
		if !ok {
			// The length counts, also where most bytes or all would not be added.
			for _, at := range []int{0, 1, 7, 50, 300, mostPosition} {
				for _, p := range []impl.Pieces{{}, stream(7, ""), stream(300, "abc"), stream(1000, ""), island(), stream(0, sampleText(199))} {
					wantNoPut(t, p, at, text)
				}
			}
			continue
		}
		wantPutOk(t, impl.Pieces{}, 0, text, stream(0, text))
		wantPutOk(t, impl.Pieces{}, 1, text, stream(0, "", piece(1, text)))
		wantPutOk(t, stream(1, ""), 0, text, stream(1, text[1:]))
		wantPutOk(t, stream(1000, ""), 0, text, stream(1000, ""))
	}
}

// Only bytes that are new count for the limit: a text is added wholly or not at all.
func TestPutPieceWithTooManyBytes(t *testing.T) {
	full := sampleText(mostHeld + 1)
	for have := range mostHeld + 1 {
		room := mostHeld - have
		p := stream(40, full[:have])
		for _, size := range []int{room - 1, room, room + 1, room + 2} {
			if size < 1 || size > mostHeld {
				continue
			}
			text := strings.Repeat("x", size)
			if size > room {
				wantNoPut(t, p, 40+have, text)
				wantNoPut(t, p, 900, text)
				continue
			}
			wantPutOk(t, p, 40+have, text, stream(40, full[:have]+text))
			wantPutOk(t, p, 900, text, stream(40, full[:have], piece(900, text)))
		}
	}
	wantPutOk(t, stream(0, full[:199]), 0, full[:200], stream(0, full[:200]))
	wantNoPut(t, stream(0, full[:199]), 1, full[1:201])
	wantPutOk(t, stream(50, full[:199]), 49, "x"+full[:199], stream(50, full[:199]))
	wantPutOk(t, stream(50, full[:100], piece(151, full[101:199])), 150, "x", stream(50, full[:100]+"x"+full[101:199]))
	wantPutOk(t, stream(50, full[:100], piece(151, full[101:200])), 149, "xy", stream(50, full[:100]+"y"+full[101:200]))
	wantNoPut(t, stream(50, full[:100], piece(151, full[101:201])), 150, "x")
	wantNoPut(t, stream(50, full[:100], piece(152, full[102:201])), 150, "xy")
	// The stream is full: what adds nothing is accepted, and what adds a byte is not.
	p := stream(0, full[:100], piece(120, full[120:200]), piece(300, full[:20]))
	wantPiecesOk(t, p, true)
	for at := range 330 {
		wantNoPut(t, p, at, "x")
		wantNoPut(t, p, at, "xyz")
	}
}

func TestPutPieceWithTooManyPieces(t *testing.T) {
	most := stream(5, "abc", rowOfPieces(mostPieces, 20, 2, 3)...)
	for i, old := range most.List {
		// A piece of its own is one too many, at each place.
		wantNoPut(t, most, old.At-2, "x")
		wantNoPut(t, most, old.At+3, "x")
		fewer := most
		fewer.List = slices.Delete(slices.Clone(most.List), i, i+1)
		wantPutOk(t, fewer, old.At, old.Text, most)
		// Merged with another one it is not, nor if it replaces two.
		wantPutOk(t, most, old.At-1, "x", changedPieces(most, i, piece(old.At-1, "x"+old.Text)))
		wantPutOk(t, most, old.At+2, "x", changedPieces(most, i, piece(old.At, old.Text+"x")))
		if i > 0 {
			before := most.List[i-1]
			list := slices.Delete(slices.Clone(most.List), i, i+1)
			list[i-1] = piece(before.At, before.Text+"xyz"+old.Text)
			wantPutOk(t, most, before.At+2, "xyz", stream(5, "abc", list...))
		}
	}
	wantNoPut(t, most, 9, "x")
	wantNoPut(t, most, 5000, "x")
	// At NextOf there is no limit of pieces, since the bytes are in no piece.
	wantPutOk(t, most, 8, "x", stream(5, "abcx", most.List...))
	wantPutOk(t, most, 7, "xyz", stream(5, "abcyz", most.List...))
	wantPutOk(t, most, 8, "123456789012", stream(5, "abc123456789012"+most.List[0].Text, most.List[1:]...))
}

// All small states, with all small texts at all positions around them.
func TestPutPieceOfAnySmallStates(t *testing.T) {
	const width = 9
	for read := range 3 {
		for pattern := range 1 << width {
			held := map[int]byte{}
			for i := range width {
				if pattern>>i&1 == 1 {
					held[read+i] = byte('A' + i)
				}
			}
			p := streamOf(read, held)
			for at := range read + width + 2 {
				for size := 1; size <= width+2; size++ {
					wantTablePutPiece(t, p, at, "abcdefghijklmnop"[:size])
				}
			}
		}
	}
}

// randomPieces returns a valid state that is near the limits of bytes and of pieces.
func randomPieces(r *rand.Rand) impl.Pieces {
	read := []int{0, 3, 1000, mostPosition - 100, mostPosition}[r.Intn(5)]
	p := impl.Pieces{Read: read, Ready: sampleText(r.Intn(60))}
	at := impl.NextOf(p)
	for range r.Intn(mostPieces + 1) {
		at += 1 + r.Intn(4)
		size := 1 + r.Intn(12)
		if impl.HeldOf(p)+size > mostHeld {
			break
		}
		p.List = append(p.List, piece(at, sampleText(at%50 + size)[at%50:]))
		at += size
	}
	return p
}

func TestPutPieceOfManyStates(t *testing.T) {
	r := rand.New(rand.NewSource(9))
	refused, taken := 0, 0
	for range 20000 {
		p := randomPieces(r)
		at := max(0, p.Read+r.Intn(260)-20)
		text := strings.Repeat("x", 1+r.Intn(40))
		if r.Intn(4) == 0 {
			text = strings.Repeat("y", 1+r.Intn(mostHeld))
		}
		want := tablePutPiece(p, at, text)
		wantPut(t, p, at, text, want)
		if samePieces(p, want) {
			refused++
		} else {
			taken++
		}
	}
	if refused < 1000 || taken < 1000 {
		t.Errorf("%d states changed and %d did not", taken, refused)
	}
}

// anyOrder visits the numbers below many in all orders.
func anyOrder(many int, visit func(order []int)) {
	var extend func(order []int)
	extend = func(order []int) {
		if len(order) == many {
			visit(order)
			return
		}
		for n := range many {
			if !slices.Contains(order, n) {
				extend(append(slices.Clone(order), n))
			}
		}
	}
	extend(nil)
}

// Promise 9: pieces in all orders give the whole stream, also if they overlap.
func TestPiecesInAllOrdersGiveTheStream(t *testing.T) {
	whole := sampleText(60)
	for _, cuts := range [][][2]int{
		{{0, 10}, {10, 20}, {20, 30}, {30, 40}, {40, 50}, {50, 60}},
		{{0, 1}, {1, 2}, {2, 3}, {3, 59}, {59, 60}, {3, 4}},
		{{0, 15}, {5, 25}, {20, 45}, {44, 46}, {40, 60}, {30, 35}},
		{{0, 60}, {0, 10}, {10, 20}, {59, 60}, {30, 31}, {5, 55}},
		{{0, 20}, {40, 60}, {15, 45}, {15, 45}, {0, 20}, {10, 50}},
	} {
		anyOrder(len(cuts), func(order []int) {
			p := stream(100, "")
			for _, i := range order {
				p = impl.PutPiece(p, 100+cuts[i][0], whole[cuts[i][0]:cuts[i][1]])
				wantPiecesOk(t, p, true)
			}
			if want := stream(100, whole); !samePieces(p, want) {
				t.Fatalf("the pieces %v in the order %v give %v", cuts, order, p)
			}
			wantNoPut(t, p, 100, whole)
		})
	}
}

// Promise 9: parts of a long stream that come in any order, some of them again, are read in order while others come.
func TestALongStreamInAnyOrderIsReadWhole(t *testing.T) {
	r := rand.New(rand.NewSource(90))
	for range 30 {
		whole := sampleText(1500)
		p, got := impl.Pieces{}, ""
		for rounds := 0; got != whole; rounds++ {
			if rounds > 20000 {
				t.Fatalf("only %d of %d bytes were read", len(got), len(whole))
			}
			// Within BufBytes bytes from Read on there is room for every part. It may lie before Read as well.
			at := max(0, min(len(got)+r.Intn(mostHeld+60)-60, len(whole)-1))
			end := min(len(whole), len(got)+mostHeld, at+1+r.Intn(30))
			p = impl.PutPiece(p, at, whole[at:end])
			wantPiecesOk(t, p, true)
			for place, b := range bytesOf(p) {
				if whole[place] != b {
					t.Fatalf("byte %d is %d in %v; want %d", place, b, p, whole[place])
				}
			}
			if r.Intn(5) == 0 {
				var text string
				p, text = impl.TakeReady(p, r.Intn(50))
				got += text
			}
			if !strings.HasPrefix(whole, got+p.Ready) || p.Read != len(got) || impl.NextOf(p) != len(got+p.Ready) {
				t.Fatalf("%q and %v are not a beginning of the stream", got, p)
			}
		}
	}
}

// With as many pieces as there may be, the bytes at NextOf are accepted, so that the stream goes on.
func TestTooManyPiecesDoNotStopTheStream(t *testing.T) {
	p := stream(0, "", rowOfPieces(mostPieces, 1, 1, 1)...)
	for at := 0; at < 2*mostPieces; at += 2 {
		p = impl.PutPiece(p, at, "x")
	}
	if got := impl.NextOf(p); got != 2*mostPieces || len(p.List) != 0 {
		t.Errorf("NextOf is %d with %v; want %d", got, p.List, 2*mostPieces)
	}
}

// Which bytes are there is fixed by the first piece with them, so that no later one changes what is read.
func TestLaterBytesChangeNothing(t *testing.T) {
	r := rand.New(rand.NewSource(91))
	for range 300 {
		p := randomPieces(r)
		for range 10 {
			longer := impl.PutPiece(p, p.Read+r.Intn(200), strings.Repeat(string([]byte{byte('a' + r.Intn(26))}), 1+r.Intn(50)))
			now := bytesOf(longer)
			for at, b := range bytesOf(p) {
				if held, ok := now[at]; !ok || held != b {
					t.Fatalf("byte %d of %v has changed in %v", at, p, longer)
				}
			}
			if !strings.HasPrefix(longer.Ready, p.Ready) || longer.Read != p.Read {
				t.Fatalf("%v is no continuation of %v", longer, p)
			}
			p = longer
		}
	}
}

func TestTakeReadyOfKnownStates(t *testing.T) {
	p := stream(5, "abcdef", piece(12, "xyz"), piece(20, "u"))
	for _, known := range []struct {
		many  int
		want  impl.Pieces
		taken string
	}{
		{0, p, ""},
		{1, stream(6, "bcdef", p.List...), "a"},
		{4, stream(9, "ef", p.List...), "abcd"},
		{5, stream(10, "f", p.List...), "abcde"},
		{6, stream(11, "", p.List...), "abcdef"},
		{7, stream(11, "", p.List...), "abcdef"},
		{200, stream(11, "", p.List...), "abcdef"},
		{1 << 32, stream(11, "", p.List...), "abcdef"},
		{1<<32 + 1, stream(11, "", p.List...), "abcdef"},
		{math.MaxInt, stream(11, "", p.List...), "abcdef"},
	} {
		wantTake(t, p, known.many, known.want, known.taken)
		wantPiecesOk(t, known.want, true)
	}
	for _, many := range []int{-1, -2, -5, -6, -7, -200, math.MinInt, math.MinInt + 1} {
		for _, p := range validPieces() {
			wantNoTake(t, p, many)
		}
	}
}

// Without bytes in Ready none are taken, although there are pieces.
func TestTakeReadyOfNoBytes(t *testing.T) {
	for _, p := range []impl.Pieces{{}, {List: []impl.Piece{}}, stream(7, ""), stream(mostPosition, ""), stream(0, "", piece(1, "abc")), stream(mostPosition, "", piece(mostStart, "abc"))} {
		for _, many := range []int{0, 1, 3, mostHeld, mostPosition, math.MaxInt} {
			wantTake(t, p, many, p, "")
		}
	}
}

func TestTakeReadyOfEveryNumber(t *testing.T) {
	full := sampleText(mostHeld)
	for _, size := range []int{1, 2, 100, 199, 200} {
		for many := range 2 * mostHeld {
			taken := min(many, size)
			wantTake(t, stream(30, full[:size]), many, stream(30+taken, full[taken:size]), full[:taken])
		}
	}
}

// Read may become MaxNumber. If it would be greater, nothing is taken, not even the bytes before.
func TestTakeReadyUpToTheLargestRead(t *testing.T) {
	for below := range 8 {
		for size := range 10 {
			read, text := mostPosition-below, "abcdefghi"[:size]
			p := stream(read, text, piece(read+size+1, "xyz"), piece(mostStart, "u"))
			for _, many := range []int{0, 1, 2, 3, 4, 5, 6, 7, 8, 9, 10, mostHeld, math.MaxInt - below, math.MaxInt} {
				if taken := min(many, size); taken > below {
					wantNoTake(t, p, many)
				} else {
					wantTake(t, p, many, stream(read+taken, text[taken:], p.List...), text[:taken])
				}
			}
		}
	}
}

// What was taken is not accepted again, and the pieces behind it stay where they are.
func TestPutPieceAfterTakeReady(t *testing.T) {
	p, _ := impl.TakeReady(stream(0, "abcdef", piece(8, "ij")), 4)
	wantPutOk(t, p, 0, "WXYZ", stream(4, "ef", piece(8, "ij")))
	wantPutOk(t, p, 2, "YZYZg", stream(4, "efg", piece(8, "ij")))
	wantPutOk(t, p, 6, "gh", stream(4, "efghij"))
	p, _ = impl.TakeReady(p, 2)
	wantPutOk(t, p, 3, "YZY", stream(6, "", piece(8, "ij")))
	wantPutOk(t, p, 5, "Zgh", stream(6, "ghij"))
	// Reading makes room for as many bytes as were read.
	full := sampleText(mostHeld)
	p, _ = impl.TakeReady(stream(0, full), 3)
	wantNoPut(t, p, 200, "wxyz")
	wantPutOk(t, p, 200, "xyz", stream(3, full[3:]+"xyz"))
}

// Each result belongs to the caller alone: changing it, or the argument, changes no other result.
func TestPiecesReturnNewMemory(t *testing.T) {
	calls := map[string]func(p impl.Pieces) impl.Pieces{
		"PutPiece at the end":      func(p impl.Pieces) impl.Pieces { return impl.PutPiece(p, 5000, "new") },
		"PutPiece at NextOf":       func(p impl.Pieces) impl.Pieces { return impl.PutPiece(p, impl.NextOf(p), "n") },
		"PutPiece behind NextOf":   func(p impl.Pieces) impl.Pieces { return impl.PutPiece(p, impl.NextOf(p)+1, "n") },
		"PutPiece of known bytes":  func(p impl.Pieces) impl.Pieces { return impl.PutPiece(p, p.Read, "n") },
		"PutPiece of no bytes":     func(p impl.Pieces) impl.Pieces { return impl.PutPiece(p, 0, "") },
		"TakeReady":                func(p impl.Pieces) impl.Pieces { q, _ := impl.TakeReady(p, 2); return q },
		"TakeReady of no bytes":    func(p impl.Pieces) impl.Pieces { q, _ := impl.TakeReady(p, 0); return q },
		"TakeReady that is denied": func(p impl.Pieces) impl.Pieces { q, _ := impl.TakeReady(p, -1); return q },
	}
	for _, p := range append(validPieces(), invalidPieces()...) {
		for name, call := range calls {
			given := newPieces(p, 2)
			one, two := call(given), call(given)
			want := newPieces(two, 0)
			if sharesElements(one.List, two.List) || sharesElements(one.List, given.List) || sharesElements(two.List, given.List) {
				t.Errorf("the results of %s of %v share a list", name, p)
			}
			wantNewTexts(t, name, textsOf(given), append(textsOf(one), textsOf(two)...))
			for _, list := range [][]impl.Piece{one.List, given.List} {
				for i := range list[:cap(list)] {
					list[:cap(list)][i] = piece(99, "changed")
				}
			}
			if !samePieces(two, want) || !samePieces(call(newPieces(p, 0)), want) {
				t.Errorf("%s of %v is changed to %v", name, p, two)
			}
		}
	}
}
