package tests

import (
	"math"
	"math/rand"
	"slices"
	"testing"

	"loop.example/g00967/impl"
)

// The limits of a list of pending joins, as the document states them.
const (
	mostHalfs = 4
	halfLife  = 6
	mostNum   = 1000000000
)

// halfSpare are elements that stand in the capacity behind a list. Their Roads are in no list.
func halfSpare() []impl.Half {
	return []impl.Half{
		{Road: impl.Road{Own: 71, Far: 72, Port: 73}, Theirs: 74, Until: mostNum},
		{Road: impl.Road{Own: 81, Far: 82}, Mine: 83, Until: math.MaxInt},
		{Road: impl.Road{Own: 91}, Give: 92, Take: 93},
	}
}

// onHalfs calls f with list, without and with spare capacity, and checks that f leaves both alone and returns want in new memory.
func onHalfs(t *testing.T, what string, list []impl.Half, want []impl.Half, f func(list []impl.Half) []impl.Half) {
	t.Helper()
	onAnyList(t, what, list, halfSpare(), want, f)
}

func wantHalfsOk(t *testing.T, list []impl.Half, want bool) {
	t.Helper()
	onHalfs(t, "HalfsOk", list, nil, func(list []impl.Half) []impl.Half {
		if got := impl.HalfsOk(list); got != want {
			t.Errorf("HalfsOk(%v) is %v", list, got)
		}
		return nil
	})
	if got := tableHalfsOk(list); got != want {
		t.Errorf("the tests say %v of %v", got, list)
	}
}

func wantHalfAt(t *testing.T, list []impl.Half, r impl.Road, want int) {
	t.Helper()
	onHalfs(t, "HalfAt", list, nil, func(list []impl.Half) []impl.Half {
		if got := impl.HalfAt(list, r); got != want {
			t.Errorf("HalfAt(%v, %v) = %d; want %d", list, r, got, want)
		}
		return nil
	})
}

// wantPutHalf checks that PutHalf returns want, which must be valid, and that h is found in it.
func wantPutHalf(t *testing.T, list []impl.Half, h impl.Half, want []impl.Half) {
	t.Helper()
	wantHalfsOk(t, want, true)
	onHalfs(t, "PutHalf", list, want, func(list []impl.Half) []impl.Half {
		got, ok := impl.PutHalf(list, h)
		if !ok {
			t.Errorf("PutHalf(%v, %v) is refused", list, h)
		}
		if at := impl.HalfAt(got, h.Road); at < 0 || at >= len(got) || got[at] != h {
			t.Errorf("after PutHalf(%v, %v) the join is not at %d of %v", list, h, at, got)
		}
		return got
	})
}

// wantNoPutHalf checks that PutHalf returns list unchanged.
func wantNoPutHalf(t *testing.T, list []impl.Half, h impl.Half) {
	t.Helper()
	onHalfs(t, "PutHalf", list, list, func(list []impl.Half) []impl.Half {
		got, ok := impl.PutHalf(list, h)
		if ok {
			t.Errorf("PutHalf(%v, %v) is accepted", list, h)
		}
		return got
	})
}

func wantDropHalf(t *testing.T, list []impl.Half, r impl.Road, want []impl.Half) {
	t.Helper()
	onHalfs(t, "DropHalf", list, want, func(list []impl.Half) []impl.Half { return impl.DropHalf(list, r) })
}

// wantNoHalf checks that the Road is not found, and that DropHalf returns list unchanged.
func wantNoHalf(t *testing.T, list []impl.Half, r impl.Road) {
	t.Helper()
	wantHalfAt(t, list, r, -1)
	wantDropHalf(t, list, r, list)
}

func wantYounger(t *testing.T, list []impl.Half, now int, want ...impl.Half) {
	t.Helper()
	onHalfs(t, "Younger", list, want, func(list []impl.Half) []impl.Half { return impl.Younger(list, now) })
}

// halfFields are all numbers of a pending join; the first three are those of its Road.
func halfFields() []intField[impl.Half] {
	return []intField[impl.Half]{
		{"Own", func(h *impl.Half) *int { return &h.Road.Own }},
		{"Far", func(h *impl.Half) *int { return &h.Road.Far }},
		{"Port", func(h *impl.Half) *int { return &h.Road.Port }},
		{"Theirs", func(h *impl.Half) *int { return &h.Theirs }},
		{"Mine", func(h *impl.Half) *int { return &h.Mine }},
		{"Give", func(h *impl.Half) *int { return &h.Give }},
		{"Take", func(h *impl.Half) *int { return &h.Take }},
		{"Until", func(h *impl.Half) *int { return &h.Until }},
	}
}

// sameHalfRoad compares the Roads of two pending joins number by number.
func sameHalfRoad(a impl.Half, r impl.Road) bool {
	return a.Road.Own == r.Own && a.Road.Far == r.Far && a.Road.Port == r.Port
}

// tableHalfsOk is HalfsOk, from each number and from each pair of elements.
func tableHalfsOk(list []impl.Half) bool {
	ok := len(list) <= mostHalfs
	for i, h := range list {
		for _, f := range halfFields() {
			n := *f.of(&h)
			ok = ok && n >= 0 && n <= mostNum
		}
		for _, before := range list[:i] {
			ok = ok && !sameHalfRoad(before, h.Road)
		}
	}
	return ok
}

// tableHalfAt is HalfAt, from the end of the list.
func tableHalfAt(list []impl.Half, r impl.Road) int {
	found := -1
	for i := len(list) - 1; i >= 0; i-- {
		if sameHalfRoad(list[i], r) {
			found = i
		}
	}
	return found
}

// wantTablePutHalf checks PutHalf: the new list is that of the parts before and behind the place.
func wantTablePutHalf(t *testing.T, list []impl.Half, h impl.Half) {
	t.Helper()
	before, behind := list, []impl.Half(nil)
	if at := tableHalfAt(list, h.Road); at >= 0 {
		before, behind = list[:at], list[at+1:]
	}
	longer := slices.Concat(before, []impl.Half{h}, behind)
	if tableHalfsOk(longer) {
		wantPutHalf(t, list, h, longer)
	} else {
		wantNoPutHalf(t, list, h)
	}
}

// wantTableDropHalf checks DropHalf and HalfAt against the second version.
func wantTableDropHalf(t *testing.T, list []impl.Half, r impl.Road) {
	t.Helper()
	at := tableHalfAt(list, r)
	if at < 0 {
		wantNoHalf(t, list, r)
		return
	}
	wantHalfAt(t, list, r, at)
	wantDropHalf(t, list, r, slices.Delete(slices.Clone(list), at, at+1))
}

// wantTableYounger checks Younger: the elements that are left where the others are taken away, at each tick that is close to an Until and far from all.
func wantTableYounger(t *testing.T, list []impl.Half) {
	t.Helper()
	ticks := []int{-1, 0, 1, mostNum - 1, mostNum, mostNum + 1, math.MinInt, math.MaxInt, math.MaxInt - 1, 1 << 32, -1 << 32}
	for _, h := range list {
		ticks = append(ticks, h.Until-1, h.Until, h.Until+1)
	}
	for _, now := range ticks {
		wantYounger(t, list, now, slices.DeleteFunc(slices.Clone(list), func(h impl.Half) bool { return h.Until <= now })...)
	}
}

// half returns the pending join with the given number. Those of two numbers differ in each field.
func half(n int) impl.Half {
	return impl.Half{Road: impl.Road{Own: 20 + n, Far: 10 + n, Port: n}, Theirs: 100 + n, Mine: 200 + n, Give: 300 + n, Take: 400 + n, Until: 500 + n}
}

// halfOn returns a pending join with the Road of h and other numbers.
func halfOn(h impl.Half) impl.Half {
	return impl.Half{Road: h.Road, Theirs: 7, Mine: 8, Give: 9, Take: 10, Until: 11}
}

// until returns a pending join for each of the ticks, in this order, on Roads of their own.
func until(ticks ...int) []impl.Half {
	list := make([]impl.Half, len(ticks))
	for i, tick := range ticks {
		list[i] = half(i)
		list[i].Until = tick
	}
	return list
}

// rowOfHalfs returns many pending joins.
func rowOfHalfs(many int) []impl.Half {
	list := make([]impl.Half, many)
	for i := range list {
		list[i] = half(i)
	}
	return list
}

// changedHalfs returns list with h at index i.
func changedHalfs(list []impl.Half, i int, h impl.Half) []impl.Half {
	changed := slices.Clone(list)
	changed[i] = h
	return changed
}

// badHalfNumbers are numbers that no field may have.
func badHalfNumbers() []int {
	return []int{-1, -2, -100, -mostNum, -mostNum - 1, mostNum + 1, mostNum + 2, 2 * mostNum, 1 << 31, 1 << 32, 1<<32 + 1, -1 << 32, 1 - 1<<32, math.MaxInt, math.MaxInt - 1, math.MinInt, math.MinInt + 1}
}

// goodHalfNumbers are numbers that each field may have.
func goodHalfNumbers() []int {
	return []int{0, 1, 2, 255, 256, 65535, 65536, 1 << 29, mostNum - 2, mostNum - 1, mostNum}
}

// validHalfs are lists that are valid.
func validHalfs() [][]impl.Half {
	most := impl.Half{Road: impl.Road{Own: mostNum, Far: mostNum, Port: mostNum}, Theirs: mostNum, Mine: mostNum, Give: mostNum, Take: mostNum, Until: mostNum}
	lists := [][]impl.Half{
		nil,
		{},
		{{}},
		{most},
		{most, {}},
		{{}, most},
		// One number apart, and the Roads of the two endpoints.
		{{}, {Road: impl.Road{Own: 1}}, {Road: impl.Road{Far: 1}}, {Road: impl.Road{Port: 1}}},
		{{Road: impl.Road{Own: 21, Far: 11}}, {Road: impl.Road{Own: 11, Far: 21}}},
		{{Road: impl.Road{Own: 21, Far: 11}}, {Road: impl.Road{Own: 21, Port: 11}}, {Road: impl.Road{Far: 21, Port: 11}}},
		// All other numbers may be equal, and in any order.
		{{Road: impl.Road{Own: 3}, Theirs: 5, Mine: 5, Give: 5, Take: 5, Until: 5}, {Road: impl.Road{Own: 2}, Theirs: 5, Mine: 5, Give: 5, Take: 5, Until: 5}},
		until(9, 3, 3, 0),
		until(0, 0, 0, 0),
	}
	for many := 1; many <= mostHalfs; many++ {
		falling := rowOfHalfs(many)
		slices.Reverse(falling)
		lists = append(lists, rowOfHalfs(many), falling)
	}
	return lists
}

// invalidHalfs are lists that are not valid, for one reason each.
func invalidHalfs() [][]impl.Half {
	lists := [][]impl.Half{rowOfHalfs(5), rowOfHalfs(6), rowOfHalfs(20)}
	for many := 2; many <= mostHalfs; many++ {
		row := rowOfHalfs(many)
		for i := range row {
			for j := range i {
				lists = append(lists, changedHalfs(row, i, row[j]), changedHalfs(row, i, halfOn(row[j])), changedHalfs(row, j, halfOn(row[i])))
			}
		}
	}
	lists = append(lists, slices.Repeat(rowOfHalfs(1), 3), slices.Repeat(rowOfHalfs(1), 4), slices.Repeat(rowOfHalfs(2), 2), make([]impl.Half, 2))
	for _, f := range halfFields() {
		for _, n := range badHalfNumbers() {
			lists = append(lists, []impl.Half{f.set(half(1), n)}, []impl.Half{half(0), f.set(half(1), n)}, []impl.Half{f.set(half(1), n), half(0), half(2)})
		}
	}
	return lists
}

// halfsToPut are pending joins with the Roads of list, and with others, valid or not.
func halfsToPut(list []impl.Half) []impl.Half {
	puts := []impl.Half{{}, half(9), {Road: impl.Road{Own: -1}}, {Road: impl.Road{Own: 5}, Give: mostNum + 1}}
	for i, h := range list {
		puts = append(puts, h, halfOn(h), impl.Half{Road: h.Road}, halfFields()[3+i%5].set(h, -1), halfFields()[3+i%5].set(h, mostNum+1))
		for _, f := range halfFields()[:3] {
			puts = append(puts, f.set(h, *f.of(&h)+1))
		}
		puts = append(puts, impl.Half{Road: impl.RoadBack(h.Road)})
	}
	return puts
}

// wantTableHalfs checks all functions of list against the second versions, with Roads that are in list and that are not.
func wantTableHalfs(t *testing.T, list []impl.Half) {
	t.Helper()
	wantHalfsOk(t, list, tableHalfsOk(list))
	wantTableYounger(t, list)
	for _, h := range halfsToPut(list) {
		wantTablePutHalf(t, list, h)
		wantTableDropHalf(t, list, h.Road)
	}
}

func TestHalfConstants(t *testing.T) {
	if impl.MaxHalfs != mostHalfs || impl.HalfLife != halfLife || impl.MaxNumber != mostNum {
		t.Error("constants", impl.MaxHalfs, impl.HalfLife, impl.MaxNumber)
	}
}

func TestValidHalfs(t *testing.T) {
	for _, list := range validHalfs() {
		wantHalfsOk(t, list, true)
		wantTableHalfs(t, list)
	}
}

func TestInvalidHalfs(t *testing.T) {
	for _, list := range invalidHalfs() {
		wantHalfsOk(t, list, false)
		wantTableHalfs(t, list)
	}
}

// MaxHalfs elements are accepted, and one more is not.
func TestHalfsOkOfEveryNumberOfHalfs(t *testing.T) {
	for many := range 26 {
		wantHalfsOk(t, rowOfHalfs(many), many <= mostHalfs)
	}
	for _, many := range []int{256, 257, 260, 512, 1000} {
		wantHalfsOk(t, rowOfHalfs(many), false)
	}
}

// Two elements with one Road are refused at each two places, whatever their other numbers are.
func TestHalfsOkOfTwoHalfsOnOneRoad(t *testing.T) {
	for many := 2; many <= mostHalfs; many++ {
		row := rowOfHalfs(many)
		for i := range row {
			for j := range row {
				wantHalfsOk(t, changedHalfs(row, i, row[j]), i == j)
				wantHalfsOk(t, changedHalfs(row, i, halfOn(row[j])), i == j)
			}
		}
	}
	// Only the Road counts: each other number may differ, and the two are still on one Road.
	for _, f := range halfFields()[3:] {
		for _, n := range goodHalfNumbers() {
			wantHalfsOk(t, []impl.Half{half(0), f.set(half(0), n)}, false)
			wantHalfsOk(t, []impl.Half{f.set(half(0), n), half(1), half(0)}, false)
		}
	}
}

// Elements that differ in Own, in Far or in Port alone are on different Roads.
func TestHalfsOkOfRoadsThatDifferInOneNumber(t *testing.T) {
	for _, f := range halfFields()[:3] {
		h := halfOn(half(3))
		for _, n := range []int{0, 1, 50, mostNum} {
			other := f.set(h, n)
			wantHalfsOk(t, []impl.Half{h, other}, true)
			wantHalfsOk(t, []impl.Half{other, h}, true)
			wantHalfsOk(t, []impl.Half{half(0), h, half(1), other}, true)
			wantHalfsOk(t, []impl.Half{other, other}, false)
			wantHalfAt(t, []impl.Half{h, other}, other.Road, 1)
			wantHalfAt(t, []impl.Half{other, h}, h.Road, 1)
			wantPutHalf(t, []impl.Half{h}, other, []impl.Half{h, other})
			wantNoHalf(t, []impl.Half{h}, other.Road)
			wantDropHalf(t, []impl.Half{h, other}, other.Road, []impl.Half{h})
			wantDropHalf(t, []impl.Half{h, other}, h.Road, []impl.Half{other})
		}
	}
}

// Each number of an element, those of its Road too, is set at each place of a list.
func TestHalfsOkOfEveryField(t *testing.T) {
	for _, f := range halfFields() {
		for many := 1; many <= mostHalfs; many++ {
			row := rowOfHalfs(many)
			for i, h := range row {
				for _, n := range goodHalfNumbers() {
					wantHalfsOk(t, changedHalfs(row, i, f.set(h, n)), true)
				}
				for _, n := range badHalfNumbers() {
					wantHalfsOk(t, changedHalfs(row, i, f.set(h, n)), false)
				}
			}
		}
	}
}

// Of all numbers of an element one or two are at a limit or beyond.
func TestHalfsOkOfTwoFields(t *testing.T) {
	edges := []int{-1, 0, mostNum, mostNum + 1}
	for _, f := range halfFields() {
		for _, g := range halfFields() {
			for _, n := range edges {
				for _, m := range edges {
					h := g.set(f.set(half(0), n), m)
					bad := m == -1 || m == mostNum+1 || f.name != g.name && (n == -1 || n == mostNum+1)
					wantHalfsOk(t, []impl.Half{h}, !bad)
					wantHalfsOk(t, []impl.Half{half(1), h}, !bad)
				}
			}
		}
	}
}

func TestHalfAtOfEveryElement(t *testing.T) {
	for many := range 12 {
		row := rowOfHalfs(many)
		for i, h := range row {
			wantHalfAt(t, row, h.Road, i)
		}
		for n := many; n < many+3; n++ {
			wantNoHalf(t, row, half(n).Road)
		}
		wantNoHalf(t, row, impl.Road{})
		for _, h := range halfSpare() {
			wantNoHalf(t, row, h.Road)
		}
	}
	wantHalfAt(t, rowOfHalfs(300), half(299).Road, 299)
	wantHalfAt(t, nil, impl.Road{}, -1)
	wantHalfAt(t, []impl.Half{{}}, impl.Road{}, 0)
	wantHalfAt(t, []impl.Half{{}}, impl.Road{Own: 1}, -1)
	wantHalfAt(t, []impl.Half{{}}, impl.Road{Far: 1}, -1)
	wantHalfAt(t, []impl.Half{{}}, impl.Road{Port: 1}, -1)
}

// Of two elements with one Road the first is found, and the first is dropped.
func TestHalfAtAndDropHalfOfTwoHalfsOnOneRoad(t *testing.T) {
	for many := 2; many <= 7; many++ {
		row := rowOfHalfs(many)
		for i := range row {
			for j := range i {
				list := changedHalfs(row, i, halfOn(row[j]))
				wantHalfAt(t, list, row[j].Road, j)
				wantNoHalf(t, list, row[i].Road)
				rest := slices.Concat(list[:j], list[j+1:])
				wantDropHalf(t, list, row[j].Road, rest)
				wantHalfAt(t, rest, row[j].Road, i-1)
			}
		}
	}
	three := []impl.Half{half(2), halfOn(half(2)), half(2)}
	wantHalfAt(t, three, half(2).Road, 0)
	wantDropHalf(t, three, half(2).Road, three[1:])
	wantDropHalf(t, three[1:], half(2).Road, three[2:])
	wantDropHalf(t, three[2:], half(2).Road, nil)
}

// Roads with numbers that no valid element has are found and dropped as others are.
func TestHalfAtOfRoadsOutOfTheRange(t *testing.T) {
	for _, f := range halfFields()[:3] {
		for _, n := range badHalfNumbers() {
			bad := f.set(half(1), n)
			wantNoHalf(t, rowOfHalfs(4), bad.Road)
			list := []impl.Half{half(0), bad, half(1)}
			wantHalfAt(t, list, bad.Road, 1)
			wantHalfAt(t, list, half(1).Road, 2)
			wantDropHalf(t, list, bad.Road, []impl.Half{half(0), half(1)})
			wantDropHalf(t, list, half(1).Road, []impl.Half{half(0), bad})
		}
	}
}

// A Road that is there is replaced wherever it stands, also in a full list, and the other elements stay.
func TestPutHalfOfARoadThatIsThere(t *testing.T) {
	for many := 1; many <= mostHalfs; many++ {
		row := rowOfHalfs(many)
		for i, h := range row {
			puts := []impl.Half{h, halfOn(h), {Road: h.Road}}
			for _, f := range halfFields()[3:] {
				for _, n := range goodHalfNumbers() {
					puts = append(puts, f.set(h, n))
				}
				for _, n := range badHalfNumbers() {
					wantNoPutHalf(t, row, f.set(h, n))
				}
			}
			for _, put := range puts {
				wantPutHalf(t, row, put, changedHalfs(row, i, put))
			}
		}
	}
}

// A new Road is appended; a full list has no room for it.
func TestPutHalfOfANewRoad(t *testing.T) {
	for many := 0; many <= mostHalfs; many++ {
		row := rowOfHalfs(many)
		puts := []impl.Half{{}, half(many), half(50), {Road: impl.RoadBack(half(0).Road)}}
		for _, f := range halfFields() {
			for _, n := range goodHalfNumbers() {
				puts = append(puts, f.set(half(60), n))
			}
			for _, n := range badHalfNumbers() {
				wantNoPutHalf(t, row, f.set(half(60), n))
			}
		}
		for _, put := range puts {
			if many < mostHalfs {
				wantPutHalf(t, row, put, append(slices.Clone(row), put))
			} else {
				wantNoPutHalf(t, row, put)
			}
		}
	}
}

// The same join twice: it is there once, and its place stays.
func TestPutHalfTwice(t *testing.T) {
	a, b := half(5), half(2)
	wantPutHalf(t, nil, a, []impl.Half{a})
	wantPutHalf(t, []impl.Half{a}, a, []impl.Half{a})
	wantPutHalf(t, []impl.Half{a}, b, []impl.Half{a, b})
	wantPutHalf(t, []impl.Half{a, b}, a, []impl.Half{a, b})
	wantPutHalf(t, []impl.Half{a, b}, halfOn(a), []impl.Half{halfOn(a), b})
	wantPutHalf(t, []impl.Half{a, b}, halfOn(b), []impl.Half{a, halfOn(b)})
	// A join that is dropped and put again comes last.
	wantDropHalf(t, []impl.Half{a, b}, a.Road, []impl.Half{b})
	wantPutHalf(t, []impl.Half{b}, a, []impl.Half{b, a})
}

// PutHalf asks for a valid result, not for a valid list.
func TestPutHalfToAListThatIsNotValid(t *testing.T) {
	for _, f := range halfFields()[3:] {
		for _, n := range badHalfNumbers() {
			for many := 1; many <= mostHalfs; many++ {
				row := rowOfHalfs(many)
				for i := range row {
					list := changedHalfs(row, i, f.set(row[i], n))
					// The element that is not valid is replaced.
					wantPutHalf(t, list, row[i], row)
					wantPutHalf(t, list, halfOn(row[i]), changedHalfs(row, i, halfOn(row[i])))
					// It stays.
					wantNoPutHalf(t, list, half(50))
					wantNoPutHalf(t, list, f.set(row[(i+1)%many], n))
					if many > 1 {
						wantNoPutHalf(t, list, halfOn(row[(i+1)%many]))
					}
				}
			}
		}
	}
}

// No put repairs a list that is too long, that has two elements with one Road, or that has a Road out of the range.
func TestPutHalfThatRepairsNothing(t *testing.T) {
	for many := mostHalfs + 1; many < mostHalfs+4; many++ {
		row := rowOfHalfs(many)
		for _, h := range append(row, half(50)) {
			wantNoPutHalf(t, row, h)
			wantNoPutHalf(t, row, halfOn(h))
		}
	}
	for many := 2; many <= mostHalfs; many++ {
		row := rowOfHalfs(many)
		for i := range row {
			for j := range i {
				list := changedHalfs(row, i, halfOn(row[j]))
				for _, h := range append(row, half(50)) {
					wantNoPutHalf(t, list, h)
				}
			}
		}
	}
	for _, f := range halfFields()[:3] {
		for _, n := range badHalfNumbers() {
			bad := f.set(half(1), n)
			for _, put := range []impl.Half{bad, halfOn(bad), half(1), half(0), half(2)} {
				wantNoPutHalf(t, []impl.Half{half(0), bad}, put)
				wantNoPutHalf(t, []impl.Half{bad}, put)
			}
		}
	}
}

// The first, the last, the only one and each other element is dropped; the others stay in order.
func TestDropHalfOfEveryElement(t *testing.T) {
	for many := range 12 {
		row := rowOfHalfs(many)
		for i, h := range row {
			wantDropHalf(t, row, h.Road, slices.Concat(row[:i], row[i+1:]))
		}
		wantDropHalf(t, row, half(many).Road, row)
		wantDropHalf(t, row, impl.RoadBack(half(0).Road), row)
	}
	wantDropHalf(t, nil, impl.Road{}, nil)
	wantDropHalf(t, []impl.Half{{}}, impl.Road{}, nil)
	wantDropHalf(t, rowOfHalfs(1), half(0).Road, nil)
	wantDropHalf(t, rowOfHalfs(300), half(0).Road, rowOfHalfs(300)[1:])
	wantDropHalf(t, rowOfHalfs(300), half(299).Road, rowOfHalfs(299))
}

func TestKnownYoungers(t *testing.T) {
	ends := until(6, 3, 6, 9)
	for _, known := range []struct {
		list []impl.Half
		now  int
		want []impl.Half
	}{
		{nil, 0, nil},
		{nil, math.MinInt, nil},
		// One below the Until, equal to it and one above.
		{until(6), 5, until(6)},
		{until(6), 6, nil},
		{until(6), 7, nil},
		{until(0), -1, until(0)},
		{until(0), 0, nil},
		{until(0), 1, nil},
		{until(mostNum), mostNum - 1, until(mostNum)},
		{until(mostNum), mostNum, nil},
		{until(mostNum), mostNum + 1, nil},
		// Negative and very large ticks.
		{ends, -1, ends},
		{ends, -mostNum, ends},
		{ends, math.MinInt, ends},
		{ends, math.MaxInt, nil},
		{ends, mostNum, nil},
		{ends, 1 << 32, nil},
		{ends, 1<<32 + 5, nil},
		{ends, 5 - 1<<32, ends},
		// All, some in order, and none.
		{ends, 2, ends},
		{ends, 3, []impl.Half{ends[0], ends[2], ends[3]}},
		{ends, 4, []impl.Half{ends[0], ends[2], ends[3]}},
		{ends, 5, []impl.Half{ends[0], ends[2], ends[3]}},
		{ends, 6, ends[3:]},
		{ends, 8, ends[3:]},
		{ends, 9, nil},
		{ends, 10, nil},
		// Lists that are not valid.
		{until(math.MinInt, -5, math.MaxInt), math.MinInt, until(math.MinInt, -5, math.MaxInt)[1:]},
		{until(math.MinInt, -5, math.MaxInt), -5, until(math.MinInt, -5, math.MaxInt)[2:]},
		{until(math.MinInt, -5, math.MaxInt), math.MaxInt - 1, until(math.MinInt, -5, math.MaxInt)[2:]},
		{until(math.MinInt, -5, math.MaxInt), math.MaxInt, nil},
		{[]impl.Half{half(1), half(1), half(1)}, 500, []impl.Half{half(1), half(1), half(1)}},
		{[]impl.Half{half(1), half(1), half(1)}, 501, nil},
		{[]impl.Half{half(1), halfOn(half(1)), half(1)}, 500, []impl.Half{half(1), half(1)}},
		{[]impl.Half{{Road: impl.Road{Own: -3}, Take: -4, Until: 8}, {Give: mostNum + 1, Until: 7}}, 7, []impl.Half{{Road: impl.Road{Own: -3}, Take: -4, Until: 8}}},
	} {
		wantYounger(t, known.list, known.now, known.want...)
	}
}

// Each of the elements may have expired or not; only Until tells.
func TestYoungerOfEverySelection(t *testing.T) {
	for selection := range 1 << 7 {
		list := rowOfHalfs(7)
		var young []impl.Half
		for i := range list {
			list[i].Until = 30 + i%2
			if selection>>i&1 == 1 {
				list[i].Until = 32 + i
				young = append(young, list[i])
			}
		}
		wantYounger(t, list, 31, young...)
		wantYounger(t, list, 29, list...)
		wantYounger(t, list, 38)
	}
	wantYounger(t, rowOfHalfs(300), 599, rowOfHalfs(300)[100:]...)
}

// A join expires HalfLife ticks after it was put, and not before; then there is room for another one.
func TestHalfsExpire(t *testing.T) {
	for _, start := range []int{0, 1, 40, mostNum - halfLife} {
		list := []impl.Half{}
		for i := range mostHalfs {
			h := half(i)
			h.Until = start + halfLife
			list, _ = impl.PutHalf(list, h)
		}
		next := half(9)
		next.Until = mostNum
		full := slices.Clone(list)
		for now := start; now < start+halfLife; now++ {
			list = impl.Younger(list, now)
			if !slices.Equal(list, full) {
				t.Fatalf("at %d of %d there are only %v", now, start+halfLife, list)
			}
			wantNoPutHalf(t, list, next)
		}
		list = impl.Younger(list, start+halfLife)
		if len(list) != 0 {
			t.Errorf("%v have not expired", list)
		}
		wantPutHalf(t, list, next, []impl.Half{next})
		for _, h := range full {
			wantNoHalf(t, list, h.Road)
		}
	}
	// A join that is put again expires later than the others.
	list := until(6, 6, 6, 6)
	again := list[1]
	again.Until = 9
	list, _ = impl.PutHalf(list, again)
	wantYounger(t, list, 5, list...)
	wantYounger(t, list, 6, again)
	wantYounger(t, list, 8, again)
	wantYounger(t, list, 9)
}

// Promise 14: whatever is put and dropped and expires, each pending join that is there is found as it was put last.
func TestHalfsThatWerePutAreFound(t *testing.T) {
	random := rand.New(rand.NewSource(14))
	for range 400 {
		var list []impl.Half
		there := map[impl.Road]impl.Half{}
		now := 0
		for range 80 {
			h := anyHalf(random, now)
			switch random.Intn(4) {
			case 0:
				now += random.Intn(3)
				list = impl.Younger(list, now)
				for r, old := range there {
					if old.Until <= now {
						delete(there, r)
					}
				}
			case 1:
				list = impl.DropHalf(list, h.Road)
				delete(there, h.Road)
			default:
				_, had := there[h.Road]
				longer, ok := impl.PutHalf(list, h)
				if want := had || len(there) < mostHalfs; ok != want {
					t.Fatalf("PutHalf(%v, %v) is %v", list, h, ok)
				}
				list = longer
				if ok {
					there[h.Road] = h
				}
			}
			wantHalfsOk(t, list, true)
			wantJustHalfs(t, list, there)
		}
	}
}

// anyHalf returns a valid pending join on one of a few Roads.
func anyHalf(r *rand.Rand, now int) impl.Half {
	road := impl.Road{Own: r.Intn(2), Far: r.Intn(2), Port: r.Intn(2)}
	return impl.Half{Road: road, Theirs: r.Intn(3), Mine: r.Intn(3), Give: r.Intn(3), Take: r.Intn(3), Until: now + r.Intn(halfLife+1)}
}

// wantJustHalfs checks that the elements of list are those that are there, each of which is found.
func wantJustHalfs(t *testing.T, list []impl.Half, there map[impl.Road]impl.Half) {
	t.Helper()
	if len(list) != len(there) {
		t.Fatalf("%v has not the %d joins %v", list, len(there), there)
	}
	for n := range 27 {
		r := impl.Road{Own: n % 3, Far: n / 3 % 3, Port: n / 9}
		at := impl.HalfAt(list, r)
		h, ok := there[r]
		if ok != (at >= 0) || ok && list[at] != h {
			t.Fatalf("in %v the join %v is at %d", list, h, at)
		}
	}
}

// All lists of up to five elements on few Roads, valid or not, with all such elements to put and drop.
func TestHalfsOfAllSmallLists(t *testing.T) {
	elements := []impl.Half{
		{},
		{Road: impl.Road{Own: 1}, Until: 1},
		{Road: impl.Road{Far: 1}, Until: 2},
		{Road: impl.Road{Port: 1}, Until: 1},
		{Take: 5, Until: 3},
		{Road: impl.Road{Own: 1}, Mine: -1, Until: 2},
	}
	lists := [][]impl.Half{nil}
	// Each list is visited, and so are those that are longer by one element, up to five.
	for i := 0; i < len(lists); i++ {
		list := lists[i]
		wantHalfsOk(t, list, tableHalfsOk(list))
		for now := -1; now <= 3; now++ {
			wantYounger(t, list, now, slices.DeleteFunc(slices.Clone(list), func(h impl.Half) bool { return h.Until <= now })...)
		}
		for _, h := range elements {
			wantTablePutHalf(t, list, h)
			wantTableDropHalf(t, list, h.Road)
			if len(list) < mostHalfs+1 {
				lists = append(lists, append(slices.Clone(list), h))
			}
		}
	}
}

// anyHalfNumber returns a number that is often near the limits.
func anyHalfNumber(r *rand.Rand) int {
	numbers := []int{0, 1, 2, 3, 50, mostNum - 1, mostNum}
	if r.Intn(60) == 0 {
		numbers = badHalfNumbers()
	}
	return numbers[r.Intn(len(numbers))]
}

// anyNumbers returns a pending join with any numbers, valid or not.
func anyNumbers(r *rand.Rand) impl.Half {
	var h impl.Half
	for _, f := range halfFields() {
		h = f.set(h, anyHalfNumber(r))
	}
	return h
}

// Random lists of up to six elements.
func TestHalfsOfRandomLists(t *testing.T) {
	random := rand.New(rand.NewSource(141))
	valid := 0
	for range 20000 {
		list := make([]impl.Half, random.Intn(7))
		for i := range list {
			list[i] = anyNumbers(random)
			if i > 0 && random.Intn(12) == 0 {
				list[i].Road = list[random.Intn(i)].Road
			}
		}
		if tableHalfsOk(list) {
			valid++
		}
		wantHalfsOk(t, list, tableHalfsOk(list))
		wantTableYounger(t, list)
		puts := []impl.Half{anyNumbers(random), anyNumbers(random)}
		if len(list) > 0 {
			on := anyNumbers(random)
			on.Road = list[random.Intn(len(list))].Road
			puts = append(puts, on)
		}
		for _, h := range puts {
			wantTablePutHalf(t, list, h)
			wantTableDropHalf(t, list, h.Road)
		}
	}
	if valid < 5000 || valid > 15000 {
		t.Errorf("%d of the lists are valid", valid)
	}
}

// Each result belongs to the caller alone: changing it, or the argument, changes no other result.
func TestHalfsReturnNewMemory(t *testing.T) {
	for _, list := range append(validHalfs(), invalidHalfs()...) {
		first, last, now := impl.Road{Own: 77}, impl.Road{Own: 77}, 0
		if len(list) > 0 {
			first, last, now = list[0].Road, list[len(list)-1].Road, list[0].Until
		}
		put := func(h impl.Half) func(list []impl.Half) []impl.Half {
			return func(list []impl.Half) []impl.Half { result, _ := impl.PutHalf(list, h); return result }
		}
		drop := func(r impl.Road) func(list []impl.Half) []impl.Half {
			return func(list []impl.Half) []impl.Half { return impl.DropHalf(list, r) }
		}
		younger := func(now int) func(list []impl.Half) []impl.Half {
			return func(list []impl.Half) []impl.Half { return impl.Younger(list, now) }
		}
		for name, call := range map[string]func(list []impl.Half) []impl.Half{
			"PutHalf of a new Road":      put(half(77)),
			"PutHalf of the first Road":  put(impl.Half{Road: first, Give: 9999}),
			"refused PutHalf":            put(impl.Half{Give: -1}),
			"DropHalf of the first Road": drop(first),
			"DropHalf of the last Road":  drop(last),
			"refused DropHalf":           drop(half(78).Road),
			"Younger of all":             younger(math.MinInt),
			"Younger of some":            younger(now),
			"Younger of none":            younger(math.MaxInt),
		} {
			wantOwnLists(t, name, list, impl.Half{Road: impl.Road{Own: 99}, Until: 98}, call)
		}
	}
}
