package tests

import (
	"math"
	"math/rand"
	"slices"
	"testing"

	"loop.example/g00967/impl"
)

// The limits of a mapping, as the document states them.
const (
	mostPosition = 1000000000
	mostMapLen   = 100000
	mostMaps     = 40
)

// onLists calls f with list, without and with spare capacity, and checks that f leaves both alone and returns want in new memory.
func onLists(t *testing.T, what string, list []impl.Map, want []impl.Map, f func(list []impl.Map) []impl.Map) {
	t.Helper()
	spare := []impl.Map{{Sub: 7, Seq: 8, Len: 9}, {Sub: 8, Seq: 8, Len: 9}, {Sub: 9, Seq: 8, Len: 9}}
	onAnyList(t, what, list, spare, want, f)
}

func wantMapsOk(t *testing.T, list []impl.Map, want bool) {
	t.Helper()
	onLists(t, "MapsOk", list, nil, func(list []impl.Map) []impl.Map {
		if got := impl.MapsOk(list); got != want {
			t.Errorf("MapsOk(%v) is %v", list, got)
		}
		return nil
	})
}

func wantPutMap(t *testing.T, list []impl.Map, m impl.Map, want []impl.Map) {
	t.Helper()
	wantMapsOk(t, want, true)
	onLists(t, "PutMap", list, want, func(list []impl.Map) []impl.Map {
		got, ok := impl.PutMap(list, m)
		if !ok {
			t.Errorf("PutMap(%v, %v) is refused", list, m)
		}
		return got
	})
}

func wantNoPutMap(t *testing.T, list []impl.Map, m impl.Map) {
	t.Helper()
	onLists(t, "PutMap", list, list, func(list []impl.Map) []impl.Map {
		got, ok := impl.PutMap(list, m)
		if ok {
			t.Errorf("PutMap(%v, %v) is accepted", list, m)
		}
		return got
	})
}

func wantSeqAt(t *testing.T, list []impl.Map, sub int, seq int) {
	t.Helper()
	onLists(t, "SeqAt", list, nil, func(list []impl.Map) []impl.Map {
		if got, ok := impl.SeqAt(list, sub); got != seq || !ok {
			t.Errorf("SeqAt(%v, %d) = %d, %v; want %d", list, sub, got, ok, seq)
		}
		return nil
	})
}

func wantNoSeqAt(t *testing.T, list []impl.Map, sub int) {
	t.Helper()
	onLists(t, "SeqAt", list, nil, func(list []impl.Map) []impl.Map {
		if got, ok := impl.SeqAt(list, sub); got != 0 || ok {
			t.Errorf("SeqAt(%v, %d) = %d, %v; want 0, false", list, sub, got, ok)
		}
		return nil
	})
}

func wantCutMaps(t *testing.T, list []impl.Map, sub int, want []impl.Map) {
	t.Helper()
	onLists(t, "CutMaps", list, want, func(list []impl.Map) []impl.Map { return impl.CutMaps(list, sub) })
}

func wantRuns(t *testing.T, list []impl.Map, want []impl.Map) {
	t.Helper()
	onLists(t, "Runs", list, want, impl.Runs)
}

// wantInvalidMaps checks all functions of a list that is not valid.
func wantInvalidMaps(t *testing.T, list []impl.Map) {
	t.Helper()
	wantMapsOk(t, list, false)
	wantRuns(t, list, nil)
	for _, sub := range []int{math.MinInt, -1, 0, 1, 5, 12, 100, 1000, mostPosition, math.MaxInt} {
		wantNoSeqAt(t, list, sub)
		wantCutMaps(t, list, sub, list)
		wantNoPutMap(t, list, impl.Map{Sub: sub, Seq: 1, Len: 1})
	}
	for _, m := range list {
		wantNoPutMap(t, list, m)
		for _, sub := range []int{m.Sub - 1, m.Sub, m.Sub + m.Len - 1, m.Sub + m.Len, m.Sub + m.Len + 1} {
			wantNoSeqAt(t, list, sub)
			wantCutMaps(t, list, sub, list)
			wantNoPutMap(t, list, impl.Map{Sub: sub, Seq: 1, Len: 1})
		}
	}
}

// flowOf returns the position in the stream of each byte of the subflow, counted byte by byte.
func flowOf(list []impl.Map) map[int]int {
	flow := map[int]int{}
	for _, m := range list {
		for i := range m.Len {
			flow[m.Sub+i] = m.Seq + i
		}
	}
	return flow
}

// wantFlow checks SeqAt of each byte that a valid list maps, and of the bytes around it.
func wantFlow(t *testing.T, list []impl.Map) {
	t.Helper()
	wantMapsOk(t, list, true)
	flow := flowOf(list)
	for sub := range flow {
		for near := sub - 2; near <= sub+2; near++ {
			wantTableSeqAt(t, list, flow, near)
		}
	}
	for sub := -3; sub <= 3; sub++ {
		wantTableSeqAt(t, list, flow, sub)
	}
}

func wantTableSeqAt(t *testing.T, list []impl.Map, flow map[int]int, sub int) {
	t.Helper()
	if seq, ok := flow[sub]; ok {
		wantSeqAt(t, list, sub, seq)
	} else {
		wantNoSeqAt(t, list, sub)
	}
}

// tableMapsOk is MapsOk, from each pair of mappings. The numbers must be small enough to be added.
func tableMapsOk(list []impl.Map) bool {
	for i, m := range list {
		if m.Sub < 0 || m.Sub > mostPosition || m.Seq < 0 || m.Seq > mostPosition || m.Len < 1 || m.Len > mostMapLen {
			return false
		}
		for _, before := range list[:i] {
			if before.Sub+before.Len > m.Sub {
				return false
			}
		}
	}
	return len(list) <= mostMaps
}

// tablePut is PutMap, by sorting: where two mappings begin at the same Sub, the list is not valid in either order.
func tablePut(list []impl.Map, m impl.Map) ([]impl.Map, bool) {
	longer := append(slices.Clone(list), m)
	slices.SortFunc(longer, func(a impl.Map, b impl.Map) int { return a.Sub - b.Sub })
	return longer, tableMapsOk(list) && tableMapsOk(longer)
}

func wantTablePut(t *testing.T, list []impl.Map, m impl.Map) {
	t.Helper()
	if want, ok := tablePut(list, m); ok {
		wantPutMap(t, list, m, want)
	} else {
		wantNoPutMap(t, list, m)
	}
}

// tableCut is CutMaps of a valid list: the last elements, from the first one on that ends behind sub.
func tableCut(list []impl.Map, sub int) []impl.Map {
	for i, m := range list {
		if m.Sub+m.Len-1 >= sub {
			return list[i:]
		}
	}
	return nil
}

// tableRuns is Runs of a valid list: it looks for the end of each run, and then adds the Lens.
func tableRuns(list []impl.Map) []impl.Map {
	var runs []impl.Map
	for len(list) > 0 {
		many, sum := 1, list[0].Len
		for many < len(list) && list[many].Sub-list[0].Sub == sum && list[many].Seq-list[0].Seq == sum && sum+list[many].Len <= mostMapLen {
			sum += list[many].Len
			many++
		}
		runs = append(runs, impl.Map{Sub: list[0].Sub, Seq: list[0].Seq, Len: sum})
		list = list[many:]
	}
	return runs
}

// rowOfMaps returns many mappings of size bytes each from the byte at on, with gap bytes between two.
func rowOfMaps(many int, at int, size int, gap int) []impl.Map {
	list := make([]impl.Map, many)
	for i := range list {
		list[i] = impl.Map{Sub: at + i*(size+gap), Seq: 5000 + 3*i*size, Len: size}
	}
	return list
}

// changedMaps returns list with m at index i.
func changedMaps(list []impl.Map, i int, m impl.Map) []impl.Map {
	changed := slices.Clone(list)
	changed[i] = m
	return changed
}

// validMaps are lists that are valid, with few bytes.
func validMaps() [][]impl.Map {
	return [][]impl.Map{
		nil,
		{},
		{{Sub: 0, Seq: 0, Len: 1}},
		{{Sub: 10, Seq: 100, Len: 5}},
		{{Sub: mostPosition, Seq: mostPosition, Len: 3}},
		// They touch, in Sub alone and in Sub and Seq.
		{{Sub: 10, Seq: 100, Len: 5}, {Sub: 15, Seq: 200, Len: 2}},
		{{Sub: 10, Seq: 100, Len: 5}, {Sub: 15, Seq: 105, Len: 2}, {Sub: 17, Seq: 107, Len: 1}},
		// There is a gap of one byte, and one of many.
		{{Sub: 10, Seq: 100, Len: 5}, {Sub: 16, Seq: 105, Len: 2}, {Sub: 500, Seq: 107, Len: 3}},
		// The order of the positions in the stream does not count, and neither does an overlap of them.
		{{Sub: 0, Seq: 300, Len: 3}, {Sub: 3, Seq: 200, Len: 3}, {Sub: 7, Seq: 100, Len: 3}},
		{{Sub: 0, Seq: 100, Len: 4}, {Sub: 4, Seq: 100, Len: 4}, {Sub: 9, Seq: 102, Len: 4}, {Sub: 13, Seq: 99, Len: 4}},
		{{Sub: 0, Seq: 0, Len: 1}, {Sub: 1, Seq: 0, Len: 1}, {Sub: mostPosition - 1, Seq: mostPosition, Len: 1}, {Sub: mostPosition, Seq: 0, Len: 2}},
		rowOfMaps(39, 10, 4, 2),
		rowOfMaps(40, 10, 4, 2),
		rowOfMaps(40, 0, 1, 0),
	}
}

// invalidMaps are lists that are not valid, for one reason each.
func invalidMaps() [][]impl.Map {
	one, two := impl.Map{Sub: 10, Seq: 100, Len: 5}, impl.Map{Sub: 20, Seq: 200, Len: 5}
	lists := [][]impl.Map{
		{two, one},
		{one, one},
		{one, {Sub: 10, Seq: 300, Len: 9}},
		{one, {Sub: 14, Seq: 104, Len: 3}, two},
		{one, {Sub: 14, Seq: 105, Len: 3}, two},
		{one, {Sub: 12, Seq: 102, Len: 1}, two},
		{one, {Sub: 9, Seq: 99, Len: 20}, {Sub: 40, Seq: 1, Len: 1}},
		{one, {Sub: 9, Seq: 99, Len: 1}, two},
		{{Sub: 0, Seq: 0, Len: mostMapLen}, {Sub: mostMapLen - 1, Seq: mostMapLen, Len: 1}},
		{{Sub: 0, Seq: 0, Len: 30}, one, {Sub: 40, Seq: 1, Len: 1}},
		{{Sub: mostPosition, Seq: 0, Len: 1}, {Sub: mostPosition + 1, Seq: 1, Len: 1}},
		// The end of the first one is too large for an int, so that a sum of Sub and Len is negative.
		{{Sub: math.MaxInt, Seq: 0, Len: 1}, {Sub: 0, Seq: 0, Len: 1}},
		{{Sub: math.MaxInt - 4, Seq: 0, Len: mostMapLen}, one},
		{{Sub: 10, Seq: 0, Len: math.MaxInt}, two},
		{{Sub: 10, Seq: math.MaxInt, Len: 5}, {Sub: 15, Seq: math.MinInt + 4, Len: 5}},
		rowOfMaps(41, 10, 4, 2),
		rowOfMaps(41, 0, 1, 0),
		rowOfMaps(80, 0, 1, 1),
	}
	for _, m := range badMaps(10) {
		lists = append(lists, []impl.Map{m}, []impl.Map{m, two}, []impl.Map{one, m}, []impl.Map{{Sub: 0, Seq: 1, Len: 5}, m, two})
	}
	return lists
}

// badMaps are mappings with one number that is outside its range. They begin at sub where the Sub is not that number.
func badMaps(sub int) []impl.Map {
	bad := []impl.Map{{Sub: sub}}
	for _, n := range []int{-1, -2, -mostPosition, mostPosition + 1, mostPosition + 2, 1 << 32, 1<<32 + 10, math.MaxInt, math.MaxInt - 5, math.MinInt, math.MinInt + 10} {
		bad = append(bad, impl.Map{Sub: n, Seq: 100, Len: 5}, impl.Map{Sub: sub, Seq: n, Len: 5})
	}
	for _, n := range []int{0, -1, -5, -mostMapLen, mostMapLen + 1, mostMapLen + 2, mostPosition, 1 << 32, 1<<32 + 5, math.MaxInt, math.MinInt, math.MinInt + 5} {
		bad = append(bad, impl.Map{Sub: sub, Seq: 100, Len: n})
	}
	return bad
}

// anyShortMaps visits all lists of up to most mappings with small numbers, valid or not.
func anyShortMaps(most int, visit func(list []impl.Map)) {
	visit(nil)
	lists := [][]impl.Map{nil}
	for range most {
		var longer [][]impl.Map
		for _, list := range lists {
			for n := range 5 * 4 * 3 {
				m := impl.Map{Sub: n%5 - 1, Seq: n / 20, Len: n / 5 % 4}
				longer = append(longer, append(slices.Clone(list), m))
			}
		}
		for _, list := range longer {
			visit(list)
		}
		lists = longer
	}
}

// randomMaps returns a valid list in which many mappings continue the one before, with many sums near the largest Len.
func randomMaps(r *rand.Rand) []impl.Map {
	lens := []int{1, 2, 3, 20, 120, 33333, 33334, 49999, 50000, 50001, mostMapLen - 1, mostMapLen}
	list := make([]impl.Map, r.Intn(mostMaps+1))
	sub, seq := r.Intn(3), r.Intn(3)
	for i := range list {
		list[i] = impl.Map{Sub: sub, Seq: seq, Len: lens[r.Intn(len(lens))]}
		sub, seq = sub+list[i].Len, seq+list[i].Len
		if r.Intn(6) == 0 {
			sub += 1 + r.Intn(3)
		}
		if r.Intn(6) == 0 {
			seq = max(0, seq+r.Intn(5)-2)
		}
	}
	return list
}

func TestMapLimit(t *testing.T) {
	if impl.MaxMaps != mostMaps {
		t.Errorf("MaxMaps is %d", impl.MaxMaps)
	}
}

// Promise 8: in a valid list each byte of the subflow has the position that the mapping with it states, and no other byte has one.
func TestValidMaps(t *testing.T) {
	for _, list := range validMaps() {
		wantFlow(t, list)
	}
}

func TestInvalidMaps(t *testing.T) {
	for _, list := range invalidMaps() {
		wantInvalidMaps(t, list)
	}
}

// MaxMaps mappings are accepted, and one more is not, whether they touch or not.
func TestMapsOkOfEveryNumberOfMaps(t *testing.T) {
	for many := range 130 {
		for gap := range 3 {
			wantMapsOk(t, rowOfMaps(many, 0, 1, gap), many <= mostMaps)
			wantMapsOk(t, rowOfMaps(many, 7, mostMapLen, gap), many <= mostMaps)
		}
	}
	for _, many := range []int{256, 257, 296, 512, 1000, 65536} {
		wantMapsOk(t, rowOfMaps(many, 0, 1, 1), false)
	}
}

// Each number is set, at its limits and outside them, at each place of lists of several lengths.
func TestMapsOkOfNumbersAtTheirLimits(t *testing.T) {
	for _, many := range []int{1, 2, 3, 40} {
		list := rowOfMaps(many, mostMapLen, 5, 2*mostMapLen)
		for i, m := range list {
			for _, seq := range []int{0, 1, mostPosition - 1, mostPosition} {
				wantMapsOk(t, changedMaps(list, i, impl.Map{Sub: m.Sub, Seq: seq, Len: 5}), true)
			}
			for _, size := range []int{1, 2, 65535, 65536, mostMapLen - 1, mostMapLen} {
				wantMapsOk(t, changedMaps(list, i, impl.Map{Sub: m.Sub, Seq: 1, Len: size}), true)
			}
			for _, bad := range badMaps(m.Sub) {
				wantMapsOk(t, changedMaps(list, i, bad), false)
			}
		}
		wantMapsOk(t, changedMaps(list, 0, impl.Map{Sub: 0, Seq: 1, Len: 5}), true)
		last := len(list) - 1
		for sub := mostPosition - 2; sub <= mostPosition+2; sub++ {
			// Sub alone is limited: the end may be above MaxNumber.
			for _, size := range []int{1, 2, 3, mostMapLen} {
				wantMapsOk(t, changedMaps(list, last, impl.Map{Sub: sub, Seq: 1, Len: size}), sub <= mostPosition)
			}
		}
	}
}

// Two mappings, at each place of a list, may touch but not overlap by a byte.
func TestMapsOkOfMapsThatTouchOrOverlap(t *testing.T) {
	for _, many := range []int{2, 3, 40} {
		for i := range many - 1 {
			list := rowOfMaps(many, 100, 6, 4)
			for end := list[i].Sub + 1; end <= list[i+1].Sub+12; end++ {
				longer := changedMaps(list, i, impl.Map{Sub: list[i].Sub, Seq: 1, Len: end - list[i].Sub})
				wantMapsOk(t, longer, end <= list[i+1].Sub)
			}
			for sub := list[i].Sub - 12; sub <= list[i+1].Sub; sub++ {
				earlier := changedMaps(list, i+1, impl.Map{Sub: sub, Seq: 1, Len: 6})
				wantMapsOk(t, earlier, sub >= list[i].Sub+6)
			}
			list[i], list[i+1] = list[i+1], list[i]
			wantMapsOk(t, list, false)
		}
	}
	for distance := -mostMapLen - 1; distance <= 1; distance += 33334 {
		for near := distance - 1; near <= distance+1; near++ {
			two := []impl.Map{{Sub: 500000, Seq: 1, Len: mostMapLen}, {Sub: 600000 + near, Seq: 1, Len: 1}}
			wantMapsOk(t, two, near >= 0)
		}
	}
}

func TestAllFunctionsOfAnyShortMaps(t *testing.T) {
	anyShortMaps(2, func(list []impl.Map) {
		if !tableMapsOk(list) {
			wantInvalidMaps(t, list)
			return
		}
		wantFlow(t, list)
		wantRuns(t, list, tableRuns(list))
		for sub := -2; sub <= 9; sub++ {
			wantCutMaps(t, list, sub, tableCut(list, sub))
		}
		anyShortMaps(1, func(one []impl.Map) {
			for _, m := range one {
				wantTablePut(t, list, m)
			}
		})
	})
}

func TestMapsOkAndRunsOfAnyThreeMaps(t *testing.T) {
	anyShortMaps(3, func(list []impl.Map) {
		ok := tableMapsOk(list)
		if got := impl.MapsOk(list); got != ok {
			t.Errorf("MapsOk(%v) is %v", list, got)
		}
		if ok {
			wantRuns(t, list, tableRuns(list))
		}
	})
}

func TestPutMapOfKnownLists(t *testing.T) {
	one, two := impl.Map{Sub: 10, Seq: 100, Len: 5}, impl.Map{Sub: 20, Seq: 200, Len: 5}
	for _, empty := range [][]impl.Map{nil, {}} {
		wantPutMap(t, empty, one, []impl.Map{one})
		wantPutMap(t, empty, impl.Map{Len: 1}, []impl.Map{{Len: 1}})
		wantPutMap(t, empty, impl.Map{Sub: mostPosition, Seq: mostPosition, Len: mostMapLen}, []impl.Map{{Sub: mostPosition, Seq: mostPosition, Len: mostMapLen}})
	}
	list := []impl.Map{one, two}
	for _, m := range []impl.Map{{Sub: 0, Seq: 9, Len: 10}, {Sub: 9, Seq: 9, Len: 1}, {Sub: 0, Seq: 900, Len: 1}} {
		wantPutMap(t, list, m, []impl.Map{m, one, two})
	}
	for _, m := range []impl.Map{{Sub: 15, Seq: 9, Len: 5}, {Sub: 15, Seq: 105, Len: 1}, {Sub: 19, Seq: 900, Len: 1}, {Sub: 17, Seq: 9, Len: 2}} {
		wantPutMap(t, list, m, []impl.Map{one, m, two})
	}
	for _, m := range []impl.Map{{Sub: 25, Seq: 9, Len: mostMapLen}, {Sub: 26, Seq: 205, Len: 1}, {Sub: mostPosition, Seq: 9, Len: 1}} {
		wantPutMap(t, list, m, []impl.Map{one, two, m})
	}
}

// Mappings that overlap are refused, also if they state the same positions.
func TestPutMapOfMapsThatOverlap(t *testing.T) {
	one, two := impl.Map{Sub: 10, Seq: 100, Len: 5}, impl.Map{Sub: 20, Seq: 110, Len: 5}
	list := []impl.Map{one, two}
	for _, m := range []impl.Map{
		one, two,
		{Sub: 10, Seq: 100, Len: 1}, {Sub: 10, Seq: 7, Len: 10}, {Sub: 20, Seq: 110, Len: 100},
		{Sub: 9, Seq: 99, Len: 2}, {Sub: 0, Seq: 90, Len: 11}, {Sub: 0, Seq: 90, Len: 100},
		{Sub: 12, Seq: 102, Len: 1}, {Sub: 14, Seq: 104, Len: 1}, {Sub: 14, Seq: 104, Len: 6},
		{Sub: 15, Seq: 105, Len: 6}, {Sub: 19, Seq: 109, Len: 2}, {Sub: 14, Seq: 104, Len: 7},
		{Sub: 21, Seq: 111, Len: 3}, {Sub: 24, Seq: 114, Len: 1}, {Sub: 24, Seq: 114, Len: 100},
	} {
		wantNoPutMap(t, list, m)
	}
	wantNoPutMap(t, []impl.Map{{Sub: 7, Seq: 0, Len: mostMapLen}}, impl.Map{Sub: 6 + mostMapLen, Seq: 0, Len: 1})
	wantPutMap(t, []impl.Map{{Sub: 7, Seq: 0, Len: mostMapLen}}, impl.Map{Sub: 7 + mostMapLen, Seq: 0, Len: 1}, []impl.Map{{Sub: 7, Seq: 0, Len: mostMapLen}, {Sub: 7 + mostMapLen, Seq: 0, Len: 1}})
}

// A mapping is put into each gap of lists of each length: it may fill the gap, but not overlap the one before or behind by a byte.
func TestPutMapAtEachPlace(t *testing.T) {
	for many := range mostMaps + 1 {
		list := rowOfMaps(many, 3, 4, 3)
		for place := range many + 1 {
			gap := impl.Map{Sub: 7 * place, Seq: 77, Len: 3}
			if many == mostMaps {
				wantNoPutMap(t, list, gap)
				wantNoPutMap(t, list, impl.Map{Sub: gap.Sub + 1, Seq: 77, Len: 1})
				continue
			}
			for _, m := range []impl.Map{gap, {Sub: gap.Sub, Seq: 0, Len: 1}, {Sub: gap.Sub + 1, Seq: mostPosition, Len: 1}, {Sub: gap.Sub + 2, Seq: 5000, Len: 1}} {
				wantPutMap(t, list, m, slices.Insert(slices.Clone(list), place, m))
			}
			if place > 0 {
				wantNoPutMap(t, list, impl.Map{Sub: gap.Sub - 1, Seq: 77, Len: 1})
				wantNoPutMap(t, list, impl.Map{Sub: gap.Sub - 1, Seq: 77, Len: 4})
				wantNoPutMap(t, list, list[place-1])
			}
			if place < many {
				wantNoPutMap(t, list, impl.Map{Sub: gap.Sub, Seq: 77, Len: 4})
				wantNoPutMap(t, list, impl.Map{Sub: gap.Sub + 2, Seq: 77, Len: 2})
				wantNoPutMap(t, list, impl.Map{Sub: gap.Sub + 3, Seq: 77, Len: 1})
			}
		}
	}
}

func TestPutMapOfInvalidMaps(t *testing.T) {
	for _, list := range validMaps() {
		for _, sub := range []int{0, 1, 10, 15, 17, 300, 700, mostPosition} {
			for _, m := range badMaps(sub) {
				wantNoPutMap(t, list, m)
			}
		}
	}
}

// A mapping between two that overlap, or behind one that is not valid, makes no list valid.
func TestPutMapIntoInvalidLists(t *testing.T) {
	for _, list := range invalidMaps() {
		for sub := range 60 {
			wantNoPutMap(t, list, impl.Map{Sub: sub, Seq: 1, Len: 1})
			wantNoPutMap(t, list, impl.Map{Sub: sub, Seq: 1, Len: 5})
		}
		for _, m := range badMaps(10) {
			wantNoPutMap(t, list, m)
		}
	}
}

// Mappings that do not overlap give the same list in whatever order they are put.
func TestPutMapInAnyOrder(t *testing.T) {
	r := rand.New(rand.NewSource(8))
	for range 60 {
		want := randomMaps(r)
		var list []impl.Map
		for _, i := range r.Perm(len(want)) {
			longer, ok := impl.PutMap(list, want[i])
			if !ok || len(longer) != len(list)+1 {
				t.Fatalf("PutMap(%v, %v) = %v, %v", list, want[i], longer, ok)
			}
			wantNoPutMap(t, longer, want[i])
			list = longer
		}
		if !slices.Equal(list, want) {
			t.Errorf("the list is %v; want %v", list, want)
		}
	}
}

func TestSeqAtOfKnownMaps(t *testing.T) {
	list := []impl.Map{{Sub: 10, Seq: 100, Len: 5}, {Sub: 15, Seq: 300, Len: 2}, {Sub: 20, Seq: 50, Len: 1}}
	for sub, seq := range map[int]int{10: 100, 11: 101, 14: 104, 15: 300, 16: 301, 20: 50} {
		wantSeqAt(t, list, sub, seq)
	}
	for _, sub := range []int{9, 17, 18, 19, 21, 22, 0, -1, -10, -15, 100, 300, 1 << 32, 1<<32 + 10, math.MaxInt, math.MinInt, math.MinInt + 12} {
		wantNoSeqAt(t, list, sub)
	}
	for _, sub := range []int{math.MinInt, -1, 0, 1, 10, math.MaxInt} {
		wantNoSeqAt(t, nil, sub)
		wantNoSeqAt(t, []impl.Map{}, sub)
	}
}

// The first and the last byte of a mapping, the one before and the one behind it, at the limits of its numbers.
func TestSeqAtOfMapsAtTheirLimits(t *testing.T) {
	for _, sub := range []int{0, 1, mostMapLen, mostPosition - 1, mostPosition} {
		for _, seq := range []int{0, 1, mostMapLen, mostPosition - 1, mostPosition} {
			for _, size := range []int{1, 2, mostMapLen - 1, mostMapLen} {
				list := []impl.Map{{Sub: sub, Seq: seq, Len: size}}
				wantSeqAt(t, list, sub, seq)
				wantSeqAt(t, list, sub+size-1, seq+size-1)
				wantSeqAt(t, list, sub+size/2, seq+size/2)
				for _, other := range []int{sub - 1, sub + size, sub + size + 1, -sub - 1, math.MaxInt, math.MinInt, math.MinInt + sub + size} {
					wantNoSeqAt(t, list, other)
				}
			}
		}
	}
}

func TestSeqAtOfManyMaps(t *testing.T) {
	r := rand.New(rand.NewSource(80))
	for range 200 {
		list := randomMaps(r)
		for i, m := range list {
			wantSeqAt(t, list, m.Sub, m.Seq)
			wantSeqAt(t, list, m.Sub+m.Len-1, m.Seq+m.Len-1)
			inside := r.Intn(m.Len)
			wantSeqAt(t, list, m.Sub+inside, m.Seq+inside)
			if end := m.Sub + m.Len; i+1 == len(list) || list[i+1].Sub > end {
				wantNoSeqAt(t, list, end)
			} else {
				wantSeqAt(t, list, end, list[i+1].Seq)
			}
		}
	}
}

// The bytes of a stream, sent in another order over a subflow, are found where they were.
func TestMappingsGiveTheStream(t *testing.T) {
	r := rand.New(rand.NewSource(81))
	for range 50 {
		stream := sampleText(400)
		var list []impl.Map
		flow := ""
		for _, i := range r.Perm(mostMaps) {
			m := impl.Map{Sub: len(flow), Seq: 10 * i, Len: 10}
			flow += stream[m.Seq : m.Seq+m.Len]
			list, _ = impl.PutMap(list, m)
		}
		found := make([]byte, len(stream))
		for sub := range len(flow) {
			seq, ok := impl.SeqAt(impl.Runs(list), sub)
			if !ok {
				t.Fatalf("byte %d of the subflow has no position in %v", sub, list)
			}
			found[seq] = flow[sub]
		}
		if string(found) != stream {
			t.Errorf("the stream is %q; want %q", found, stream)
		}
	}
}

func TestCutMapsOfKnownLists(t *testing.T) {
	list := []impl.Map{{Sub: 10, Seq: 100, Len: 5}, {Sub: 15, Seq: 300, Len: 2}, {Sub: 20, Seq: 50, Len: 1}}
	for _, sub := range []int{math.MinInt, -1, 0, 9, 10, 11, 14} {
		wantCutMaps(t, list, sub, list)
	}
	for _, sub := range []int{15, 16} {
		wantCutMaps(t, list, sub, list[1:])
	}
	for _, sub := range []int{17, 18, 19, 20} {
		wantCutMaps(t, list, sub, list[2:])
	}
	for _, sub := range []int{21, 22, 100, 1 << 32, math.MaxInt} {
		wantCutMaps(t, list, sub, nil)
	}
	largest := []impl.Map{{Sub: mostPosition, Seq: 0, Len: mostMapLen}}
	wantCutMaps(t, largest, mostPosition+mostMapLen-1, largest)
	wantCutMaps(t, largest, mostPosition+mostMapLen, nil)
}

// The mappings that are left keep their positions, and a mapping with a byte at sub or behind it is left whole.
func TestCutMapsAtEachPlace(t *testing.T) {
	for _, list := range validMaps() {
		subs := []int{math.MinInt, -1, 0, 1, math.MaxInt}
		for _, m := range list {
			subs = append(subs, m.Sub-1, m.Sub, m.Sub+1, m.Sub+m.Len-1, m.Sub+m.Len, m.Sub+m.Len+1)
		}
		for _, sub := range subs {
			wantCutMaps(t, list, sub, tableCut(list, sub))
			cut := impl.CutMaps(list, sub)
			wantMapsOk(t, cut, true)
			for at, seq := range flowOf(list) {
				if at >= sub {
					wantSeqAt(t, cut, at, seq)
				}
			}
		}
	}
}

func TestCutMapsOfManyMaps(t *testing.T) {
	r := rand.New(rand.NewSource(82))
	for range 300 {
		list := randomMaps(r)
		for _, m := range list {
			for _, sub := range []int{m.Sub, m.Sub + r.Intn(m.Len), m.Sub + m.Len - 1, m.Sub + m.Len} {
				wantCutMaps(t, list, sub, tableCut(list, sub))
			}
		}
	}
}

// A list that is not valid is left as it is, also where its elements would be removed from a valid one.
func TestCutMapsOfInvalidLists(t *testing.T) {
	for _, list := range invalidMaps() {
		for _, sub := range []int{math.MinInt, -1, 0, 10, 15, 16, 25, 1000, mostPosition + mostMapLen, math.MaxInt} {
			wantCutMaps(t, list, sub, list)
		}
	}
}

func TestRunsOfKnownLists(t *testing.T) {
	one := impl.Map{Sub: 10, Seq: 100, Len: 5}
	wantRuns(t, nil, nil)
	wantRuns(t, []impl.Map{}, nil)
	wantRuns(t, []impl.Map{one}, []impl.Map{one})
	wantRuns(t, []impl.Map{one, {Sub: 15, Seq: 105, Len: 2}}, []impl.Map{{Sub: 10, Seq: 100, Len: 7}})
	// They join in Sub alone, with a Seq one before and one behind the end, and in Seq alone, and in neither.
	for _, next := range []impl.Map{
		{Sub: 15, Seq: 104, Len: 2}, {Sub: 15, Seq: 106, Len: 2}, {Sub: 15, Seq: 100, Len: 5}, {Sub: 15, Seq: 0, Len: 2},
		{Sub: 16, Seq: 105, Len: 2}, {Sub: 17, Seq: 105, Len: 2}, {Sub: 100, Seq: 105, Len: 2},
		{Sub: 16, Seq: 106, Len: 2}, {Sub: 16, Seq: 104, Len: 2}, {Sub: 105, Seq: 15, Len: 2},
	} {
		wantRuns(t, []impl.Map{one, next}, []impl.Map{one, next})
	}
	// Several join in a row, before and behind others that do not.
	wantRuns(t, []impl.Map{
		{Sub: 0, Seq: 9, Len: 10}, one, {Sub: 15, Seq: 105, Len: 1}, {Sub: 16, Seq: 106, Len: 4}, {Sub: 20, Seq: 110, Len: 2},
		{Sub: 22, Seq: 111, Len: 1}, {Sub: 23, Seq: 112, Len: 1}, {Sub: 25, Seq: 113, Len: 1}, {Sub: 26, Seq: 114, Len: 3},
	}, []impl.Map{
		{Sub: 0, Seq: 9, Len: 10}, {Sub: 10, Seq: 100, Len: 12}, {Sub: 22, Seq: 111, Len: 2}, {Sub: 25, Seq: 113, Len: 4},
	})
	// The one between does not join, so that the first and the last do not either.
	apart := []impl.Map{one, {Sub: 15, Seq: 7, Len: 2}, {Sub: 17, Seq: 107, Len: 2}, {Sub: 19, Seq: 105, Len: 2}}
	wantRuns(t, apart, apart)
}

// chainOfMaps returns mappings of the given Lens that join in both Sub and Seq.
func chainOfMaps(sub int, seq int, lens ...int) []impl.Map {
	var list []impl.Map
	for _, size := range lens {
		list = append(list, impl.Map{Sub: sub, Seq: seq, Len: size})
		sub, seq = sub+size, seq+size
	}
	return list
}

// A sum of exactly 100000 bytes is one run; with one more the mapping begins a run of its own, which the next ones join.
func TestRunsOfTheLargestSum(t *testing.T) {
	for _, known := range []struct{ lens, want []int }{
		{[]int{mostMapLen - 1, 1}, []int{mostMapLen}},
		{[]int{1, mostMapLen - 1}, []int{mostMapLen}},
		{[]int{50000, 50000}, []int{mostMapLen}},
		{[]int{30000, 30000, 40000}, []int{mostMapLen}},
		{[]int{mostMapLen, 1}, []int{mostMapLen, 1}},
		{[]int{1, mostMapLen}, []int{1, mostMapLen}},
		{[]int{50000, 50001}, []int{50000, 50001}},
		{[]int{30000, 30000, 40001}, []int{60000, 40001}},
		{[]int{30000, 30000, 40001, 59999}, []int{60000, mostMapLen}},
		{[]int{30000, 30000, 40001, 60000}, []int{60000, 40001, 60000}},
		{[]int{60000, 60000, 40000}, []int{60000, mostMapLen}},
		{[]int{mostMapLen, mostMapLen, mostMapLen}, []int{mostMapLen, mostMapLen, mostMapLen}},
		{[]int{mostMapLen, 1, 1, mostMapLen - 2, 1}, []int{mostMapLen, mostMapLen, 1}},
		// The run is not filled up by a later mapping that is small enough, because the one before it is another run.
		{[]int{99998, 3, 2}, []int{99998, 5}},
	} {
		for _, at := range []int{0, 1, 12345} {
			wantRuns(t, chainOfMaps(at, 3*at, known.lens...), chainOfMaps(at, 3*at, known.want...))
		}
	}
	ones := rowOfMaps(mostMaps, 0, 1, 0)
	for i := range ones {
		ones[i].Seq = 70 + i
	}
	wantRuns(t, ones, []impl.Map{{Sub: 0, Seq: 70, Len: mostMaps}})
}

// Near MaxNumber an end is above it, and no mapping begins there.
func TestRunsAtTheLargestPositions(t *testing.T) {
	wantRuns(t, chainOfMaps(mostPosition-3, mostPosition-3, 3, 5), []impl.Map{{Sub: mostPosition - 3, Seq: mostPosition - 3, Len: 8}})
	wantRuns(t, chainOfMaps(mostPosition-3, 0, 3, mostMapLen-3), []impl.Map{{Sub: mostPosition - 3, Seq: 0, Len: mostMapLen}})
	apart := []impl.Map{{Sub: 0, Seq: mostPosition, Len: 4}, {Sub: 4, Seq: mostPosition, Len: 4}}
	wantRuns(t, apart, apart)
}

// Merging changes no position.
func TestRunsOfManyMaps(t *testing.T) {
	r := rand.New(rand.NewSource(83))
	merged := 0
	for range 2000 {
		list := randomMaps(r)
		wantRuns(t, list, tableRuns(list))
		runs := impl.Runs(list)
		wantMapsOk(t, runs, true)
		merged += len(list) - len(runs)
		for _, m := range list {
			wantSeqAt(t, runs, m.Sub, m.Seq)
			wantSeqAt(t, runs, m.Sub+m.Len-1, m.Seq+m.Len-1)
		}
	}
	if merged == 0 {
		t.Error("no mappings were merged")
	}
	for _, list := range validMaps() {
		wantRuns(t, list, tableRuns(list))
		runs, flow := impl.Runs(list), flowOf(list)
		for sub := range flow {
			for near := sub - 2; near <= sub+2; near++ {
				wantTableSeqAt(t, runs, flow, near)
			}
		}
	}
}

// Each result belongs to the caller alone: changing it, or the argument, changes no other result.
func TestMapsReturnNewMemory(t *testing.T) {
	for _, list := range append(validMaps(), invalidMaps()...) {
		calls := map[string]func(list []impl.Map) []impl.Map{
			"PutMap": func(list []impl.Map) []impl.Map {
				put, _ := impl.PutMap(list, impl.Map{Sub: 700, Seq: 1, Len: 1})
				return put
			},
			"refused PutMap": func(list []impl.Map) []impl.Map { put, _ := impl.PutMap(list, impl.Map{}); return put },
			"CutMaps":        func(list []impl.Map) []impl.Map { return impl.CutMaps(list, 14) },
			"no CutMaps":     func(list []impl.Map) []impl.Map { return impl.CutMaps(list, -1) },
			"Runs":           impl.Runs,
		}
		for name, call := range calls {
			wantOwnLists(t, name, list, impl.Map{Sub: 99, Seq: 98, Len: 97}, call)
		}
	}
}
