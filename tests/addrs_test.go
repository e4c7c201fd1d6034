package tests

import (
	"math"
	"math/rand"
	"slices"
	"testing"

	"loop.example/g00967/impl"
)

// The limits of a list of addresses, as the document states them.
const (
	mostAddrs = 6
	mostId    = 255
	mostAddr  = 65535
)

// onAddrs calls f with list, without and with spare capacity, and checks that f leaves both alone and returns want in new memory.
func onAddrs(t *testing.T, what string, list []impl.Addr, want []impl.Addr, f func(list []impl.Addr) []impl.Addr) {
	t.Helper()
	spare := []impl.Addr{{Id: 7, Addr: 70}, {Id: 8, Addr: 80, Spare: true}, {Id: 9, Addr: 90, Told: true}}
	onAnyList(t, what, list, spare, want, f)
}

func wantAddrsOk(t *testing.T, list []impl.Addr, want bool) {
	t.Helper()
	onAddrs(t, "AddrsOk", list, nil, func(list []impl.Addr) []impl.Addr {
		if got := impl.AddrsOk(list); got != want {
			t.Errorf("AddrsOk(%v) is %v", list, got)
		}
		return nil
	})
	if got := tableAddrsOk(list); got != want {
		t.Errorf("the tests say %v of %v", got, list)
	}
}

// wantPutAddr checks that PutAddr returns want, which must be valid, and that a is found in it.
func wantPutAddr(t *testing.T, list []impl.Addr, a impl.Addr, want []impl.Addr) {
	t.Helper()
	wantAddrsOk(t, want, true)
	onAddrs(t, "PutAddr", list, want, func(list []impl.Addr) []impl.Addr {
		got, ok := impl.PutAddr(list, a)
		if !ok {
			t.Errorf("PutAddr(%v, %v) is refused", list, a)
		}
		if at := impl.AddrAt(got, a.Id); at < 0 || at >= len(got) || got[at] != a {
			t.Errorf("after PutAddr(%v, %v) the address is not at %d of %v", list, a, at, got)
		}
		return got
	})
}

// wantNoPutAddr checks that PutAddr returns list unchanged.
func wantNoPutAddr(t *testing.T, list []impl.Addr, a impl.Addr) {
	t.Helper()
	onAddrs(t, "PutAddr", list, list, func(list []impl.Addr) []impl.Addr {
		got, ok := impl.PutAddr(list, a)
		if ok {
			t.Errorf("PutAddr(%v, %v) is accepted", list, a)
		}
		return got
	})
}

func wantDropAddr(t *testing.T, list []impl.Addr, id int, want []impl.Addr) {
	t.Helper()
	onAddrs(t, "DropAddr", list, want, func(list []impl.Addr) []impl.Addr {
		got, ok := impl.DropAddr(list, id)
		if !ok {
			t.Errorf("DropAddr(%v, %d) is refused", list, id)
		}
		return got
	})
}

// wantNoDropAddr checks that DropAddr returns list unchanged.
func wantNoDropAddr(t *testing.T, list []impl.Addr, id int) {
	t.Helper()
	onAddrs(t, "DropAddr", list, list, func(list []impl.Addr) []impl.Addr {
		got, ok := impl.DropAddr(list, id)
		if ok {
			t.Errorf("DropAddr(%v, %d) is accepted", list, id)
		}
		return got
	})
}

func wantAddrAt(t *testing.T, list []impl.Addr, id int, want int) {
	t.Helper()
	onAddrs(t, "AddrAt", list, nil, func(list []impl.Addr) []impl.Addr {
		if got := impl.AddrAt(list, id); got != want {
			t.Errorf("AddrAt(%v, %d) = %d; want %d", list, id, got, want)
		}
		return nil
	})
}

// wantNoAddrAt checks that the Id is neither found nor dropped.
func wantNoAddrAt(t *testing.T, list []impl.Addr, id int) {
	t.Helper()
	wantAddrAt(t, list, id, -1)
	wantNoDropAddr(t, list, id)
}

func wantUntoldOf(t *testing.T, list []impl.Addr, want ...int) {
	t.Helper()
	onAddrs(t, "UntoldOf", list, nil, func(list []impl.Addr) []impl.Addr {
		if got := impl.UntoldOf(list); !slices.Equal(got, want) {
			t.Errorf("UntoldOf(%v) = %v; want %v", list, got, want)
		}
		return nil
	})
}

// tableAddrsOk is AddrsOk, from each pair of elements.
func tableAddrsOk(list []impl.Addr) bool {
	ok := len(list) <= mostAddrs
	for i, a := range list {
		ok = ok && a.Id >= 0 && a.Id <= mostId && a.Addr >= 1 && a.Addr <= mostAddr
		for _, before := range list[:i] {
			ok = ok && before.Id < a.Id && before.Addr != a.Addr
		}
	}
	return ok
}

// tableAddrAt is AddrAt, from the end of the list.
func tableAddrAt(list []impl.Addr, id int) int {
	found := -1
	for i := len(list) - 1; i >= 0; i-- {
		if list[i].Id == id {
			found = i
		}
	}
	return found
}

// tablePutAddr is PutAddr, from the parts of the list before and behind the place.
func tablePutAddr(list []impl.Addr, a impl.Addr) ([]impl.Addr, bool) {
	at := tableAddrAt(list, a.Id)
	behind := at + 1
	if at < 0 {
		for at = 0; at < len(list) && list[at].Id < a.Id; at++ {
		}
		behind = at
	}
	longer := slices.Concat(list[:at], []impl.Addr{a}, list[behind:])
	return longer, tableAddrsOk(longer)
}

// wantTablePutAddr checks PutAddr against the second version.
func wantTablePutAddr(t *testing.T, list []impl.Addr, a impl.Addr) {
	t.Helper()
	if want, ok := tablePutAddr(list, a); ok {
		wantPutAddr(t, list, a, want)
	} else {
		wantNoPutAddr(t, list, a)
	}
}

// wantTableDropAddr checks DropAddr and AddrAt against the second version.
func wantTableDropAddr(t *testing.T, list []impl.Addr, id int) {
	t.Helper()
	at := tableAddrAt(list, id)
	if at < 0 {
		wantNoAddrAt(t, list, id)
		return
	}
	wantAddrAt(t, list, id, at)
	wantDropAddr(t, list, id, slices.Concat(list[:at], list[at+1:]))
}

// wantTableUntold checks UntoldOf: the Ids that are left where those of the elements that are Told are taken away.
func wantTableUntold(t *testing.T, list []impl.Addr) {
	t.Helper()
	left := slices.DeleteFunc(slices.Clone(list), func(a impl.Addr) bool { return a.Told })
	ids := make([]int, len(left))
	for i, a := range left {
		ids[i] = a.Id
	}
	wantUntoldOf(t, list, ids...)
}

// rowOfAddrs returns many addresses, with the Ids 10, 20 and so on and the Addrs 100, 200 and so on.
func rowOfAddrs(many int) []impl.Addr {
	list := make([]impl.Addr, many)
	for i := range list {
		list[i] = impl.Addr{Id: 10 * (i + 1), Addr: 100 * (i + 1), Spare: i%3 == 1, Told: i%2 == 1}
	}
	return list
}

// changedAddrs returns list with a at index i.
func changedAddrs(list []impl.Addr, i int, a impl.Addr) []impl.Addr {
	changed := slices.Clone(list)
	changed[i] = a
	return changed
}

// badIds and badAddrNumbers are numbers that no Id, and no Addr, may have.
func badIds() []int {
	return []int{-1, -2, -10, -256, mostId + 1, mostId + 2, 266, 512, 65536, 1 << 32, 1<<32 + 10, math.MaxInt, math.MinInt, math.MinInt + 10}
}

func badAddrNumbers() []int {
	return []int{0, -1, -2, -100, -mostAddr, mostAddr + 1, mostAddr + 2, mostAddr + 101, 1 << 32, 1<<32 + 100, math.MaxInt, math.MinInt, math.MinInt + 100}
}

// validAddrs are lists that are valid.
func validAddrs() [][]impl.Addr {
	return [][]impl.Addr{
		nil,
		{},
		{{Id: 0, Addr: 1}},
		{{Id: 0, Addr: mostAddr}},
		{{Id: mostId, Addr: 1}},
		{{Id: mostId, Addr: mostAddr, Spare: true, Told: true}},
		{{Id: 3, Addr: 12, Told: true}},
		{{Id: 0, Addr: 11}, {Id: 1, Addr: 12}},
		// The order of the Addrs does not count, and an Addr may be the Id of another element.
		{{Id: 0, Addr: 12}, {Id: 1, Addr: 11}, {Id: 2, Addr: 13}},
		{{Id: 1, Addr: 3}, {Id: 2, Addr: 1}, {Id: 3, Addr: 2}},
		{{Id: 0, Addr: mostAddr, Spare: true}, {Id: 254, Addr: 2, Told: true}, {Id: mostId, Addr: 1}},
		rowOfAddrs(5),
		rowOfAddrs(6),
		{{Id: 0, Addr: 6}, {Id: 1, Addr: 5}, {Id: 2, Addr: 4}, {Id: 3, Addr: 3}, {Id: 4, Addr: 2}, {Id: 5, Addr: 1}},
	}
}

// invalidAddrs are lists that are not valid, for one reason each.
func invalidAddrs() [][]impl.Addr {
	one, two, three := impl.Addr{Id: 10, Addr: 100}, impl.Addr{Id: 20, Addr: 200, Told: true}, impl.Addr{Id: 30, Addr: 300, Spare: true}
	lists := [][]impl.Addr{
		// The Ids fall, at each place.
		{two, one},
		{two, one, three},
		{one, three, two},
		{three, two, one},
		{two, three, one},
		// An Id stands twice, with the same Addr and with another one.
		{one, one},
		{one, {Id: 10, Addr: 101}},
		{one, {Id: 10, Addr: 101}, three},
		{one, three, {Id: 30, Addr: 301}},
		{one, two, {Id: 10, Addr: 101}},
		{one, {Id: 10, Addr: 101}, {Id: 10, Addr: 102}},
		// An Addr stands twice: in neighbours, and in others.
		{one, {Id: 20, Addr: 100}},
		{one, {Id: 20, Addr: 100}, three},
		{one, two, {Id: 30, Addr: 200}},
		{one, two, {Id: 30, Addr: 100}},
		{one, two, three, {Id: 40, Addr: 100}},
		{one, two, three, {Id: 40, Addr: 200}},
		// Whether the elements are Spare or Told does not count.
		{one, {Id: 20, Addr: 100, Spare: true, Told: true}},
		rowOfAddrs(7),
		rowOfAddrs(8),
		rowOfAddrs(20),
	}
	for i := range 6 {
		for j := range i {
			lists = append(lists, changedAddrs(rowOfAddrs(6), i, impl.Addr{Id: 10 * (i + 1), Addr: 100 * (j + 1)}))
		}
	}
	for _, n := range badIds() {
		bad := impl.Addr{Id: n, Addr: 150}
		lists = append(lists, []impl.Addr{bad}, []impl.Addr{bad, one}, []impl.Addr{one, bad}, []impl.Addr{one, bad, three})
	}
	for _, n := range badAddrNumbers() {
		bad := impl.Addr{Id: 15, Addr: n}
		lists = append(lists, []impl.Addr{bad}, []impl.Addr{bad, two}, []impl.Addr{one, bad}, []impl.Addr{one, bad, three})
	}
	return lists
}

// addrsToPut are addresses with the Ids and Addrs of list, and with others, valid or not.
func addrsToPut(list []impl.Addr) []impl.Addr {
	ids, numbers := []int{-1, 0, 5, 10, 15, mostId, mostId + 1}, []int{0, 1, 42, mostAddr, mostAddr + 1}
	for _, a := range list {
		ids = append(ids, a.Id, a.Id+1)
		numbers = append(numbers, a.Addr)
	}
	var puts []impl.Addr
	for i, id := range ids {
		for j, n := range numbers {
			puts = append(puts, impl.Addr{Id: id, Addr: n, Spare: i%2 == 0, Told: j%2 == 0})
		}
	}
	return puts
}

// wantTableAddrs checks all functions of list against the second versions, with addresses and Ids that are in list and that are not.
func wantTableAddrs(t *testing.T, list []impl.Addr) {
	t.Helper()
	wantAddrsOk(t, list, tableAddrsOk(list))
	wantTableUntold(t, list)
	for _, a := range addrsToPut(list) {
		wantTablePutAddr(t, list, a)
		wantTableDropAddr(t, list, a.Id)
	}
	for _, id := range badIds() {
		wantTableDropAddr(t, list, id)
	}
}

func TestAddrLimit(t *testing.T) {
	if impl.MaxAddrs != mostAddrs {
		t.Errorf("MaxAddrs is %d", impl.MaxAddrs)
	}
}

func TestValidAddrs(t *testing.T) {
	for _, list := range validAddrs() {
		wantAddrsOk(t, list, true)
		wantTableAddrs(t, list)
	}
}

func TestInvalidAddrs(t *testing.T) {
	for _, list := range invalidAddrs() {
		wantAddrsOk(t, list, false)
		wantTableAddrs(t, list)
	}
}

// MaxAddrs elements are accepted, and one more is not.
func TestAddrsOkOfEveryNumberOfAddrs(t *testing.T) {
	for many := range 26 {
		wantAddrsOk(t, rowOfAddrs(many), many <= mostAddrs)
	}
	for _, many := range []int{256, 257, 262, 512, 1000} {
		long := make([]impl.Addr, many)
		for i := range long {
			long[i] = impl.Addr{Id: i, Addr: i + 1}
		}
		wantAddrsOk(t, long, false)
	}
}

// Each Id and each Addr is set at each place of a list.
func TestAddrsOkOfEveryId(t *testing.T) {
	for many := 1; many <= mostAddrs; many++ {
		list := rowOfAddrs(many)
		for i := range list {
			least, most := 0, mostId
			if i > 0 {
				least = list[i-1].Id + 1
			}
			if i < many-1 {
				most = list[i+1].Id - 1
			}
			for id := -300; id <= 600; id++ {
				wantAddrsOk(t, changedAddrs(list, i, impl.Addr{Id: id, Addr: 7}), id >= least && id <= most)
			}
			for _, id := range badIds() {
				wantAddrsOk(t, changedAddrs(list, i, impl.Addr{Id: id, Addr: 7}), false)
			}
		}
	}
}

func TestAddrsOkOfEveryAddr(t *testing.T) {
	for many := 1; many <= mostAddrs; many++ {
		list := rowOfAddrs(many)
		for i, a := range list {
			numbers := append([]int{1, 2, 7, 255, 256, 32768, mostAddr - 1, mostAddr}, badAddrNumbers()...)
			for n := 99; n <= 701; n++ {
				numbers = append(numbers, n)
			}
			for _, n := range numbers {
				taken := n%100 == 0 && n/100 >= 1 && n/100 <= many && n != a.Addr
				wantAddrsOk(t, changedAddrs(list, i, impl.Addr{Id: a.Id, Addr: n}), n >= 1 && n <= mostAddr && !taken)
			}
		}
	}
	for n := -3; n <= mostAddr+3; n++ {
		if impl.AddrsOk([]impl.Addr{{Id: 1, Addr: n}}) != (n >= 1 && n <= mostAddr) {
			t.Errorf("AddrsOk of the Addr %d", n)
		}
	}
}

// An Id that is there is replaced wherever it stands, also in a full list, and the other elements stay.
func TestPutAddrOfAnIdThatIsThere(t *testing.T) {
	for many := 1; many <= mostAddrs; many++ {
		list := rowOfAddrs(many)
		for i, a := range list {
			for _, put := range []impl.Addr{
				{Id: a.Id, Addr: 7},
				{Id: a.Id, Addr: 1, Told: true},
				{Id: a.Id, Addr: mostAddr, Spare: true},
				{Id: a.Id, Addr: 8, Spare: true, Told: true},
				// The Addr of the element that is replaced.
				{Id: a.Id, Addr: a.Addr, Spare: !a.Spare, Told: !a.Told},
				a,
			} {
				wantPutAddr(t, list, put, changedAddrs(list, i, put))
			}
			for _, other := range list {
				if other != a {
					wantNoPutAddr(t, list, impl.Addr{Id: a.Id, Addr: other.Addr})
				}
			}
			for _, n := range badAddrNumbers() {
				wantNoPutAddr(t, list, impl.Addr{Id: a.Id, Addr: n})
			}
		}
	}
}

// A new Id has its place between the others; a full list has none.
func TestPutAddrOfANewId(t *testing.T) {
	for many := 0; many <= mostAddrs; many++ {
		list := rowOfAddrs(many)
		for at := range many + 1 {
			for _, id := range []int{10*at + 1, 10*at + 5, 10*at + 9} {
				put := impl.Addr{Id: id, Addr: 7, Spare: at%2 == 0, Told: id%2 == 0}
				if many < mostAddrs {
					wantPutAddr(t, list, put, slices.Concat(list[:at], []impl.Addr{put}, list[at:]))
				} else {
					wantNoPutAddr(t, list, put)
				}
				for _, other := range list {
					wantNoPutAddr(t, list, impl.Addr{Id: id, Addr: other.Addr, Spare: true})
				}
				for _, n := range badAddrNumbers() {
					wantNoPutAddr(t, list, impl.Addr{Id: id, Addr: n})
				}
			}
		}
		for _, id := range badIds() {
			wantNoPutAddr(t, list, impl.Addr{Id: id, Addr: 7})
		}
	}
	wantPutAddr(t, rowOfAddrs(2), impl.Addr{Id: 0, Addr: 7}, []impl.Addr{{Id: 0, Addr: 7}, rowOfAddrs(2)[0], rowOfAddrs(2)[1]})
	wantPutAddr(t, rowOfAddrs(1), impl.Addr{Id: mostId, Addr: mostAddr}, []impl.Addr{rowOfAddrs(1)[0], {Id: mostId, Addr: mostAddr}})
}

// The same address twice: the second time nothing is changed, and it is there once.
func TestPutAddrTwice(t *testing.T) {
	a, b := impl.Addr{Id: 3, Addr: 12}, impl.Addr{Id: 1, Addr: 13, Told: true}
	wantPutAddr(t, nil, a, []impl.Addr{a})
	wantPutAddr(t, []impl.Addr{a}, a, []impl.Addr{a})
	wantPutAddr(t, []impl.Addr{a}, b, []impl.Addr{b, a})
	wantPutAddr(t, []impl.Addr{b, a}, a, []impl.Addr{b, a})
	wantPutAddr(t, []impl.Addr{b, a}, b, []impl.Addr{b, a})
	// The same number under two Ids is refused, and taken again after it was removed.
	wantNoPutAddr(t, []impl.Addr{b, a}, impl.Addr{Id: 2, Addr: 12})
	wantDropAddr(t, []impl.Addr{b, a}, 3, []impl.Addr{b})
	wantPutAddr(t, []impl.Addr{b}, impl.Addr{Id: 2, Addr: 12}, []impl.Addr{b, {Id: 2, Addr: 12}})
	// Two elements can only exchange their numbers by way of a third one.
	wantNoPutAddr(t, []impl.Addr{b, a}, impl.Addr{Id: 1, Addr: 12})
	wantPutAddr(t, []impl.Addr{b, a}, impl.Addr{Id: 1, Addr: 14}, []impl.Addr{{Id: 1, Addr: 14}, a})
}

// PutAddr asks for a valid result, not for a valid list.
func TestPutAddrToAListThatIsNotValid(t *testing.T) {
	one, three := impl.Addr{Id: 10, Addr: 100}, impl.Addr{Id: 30, Addr: 300}
	put := impl.Addr{Id: 20, Addr: 200, Spare: true}
	for _, bad := range []impl.Addr{{Id: 20, Addr: 0}, {Id: 20, Addr: -5}, {Id: 20, Addr: mostAddr + 1}, {Id: 20, Addr: 100}, {Id: 20, Addr: 300}, {Id: 20, Addr: math.MinInt}} {
		list := []impl.Addr{one, bad, three}
		wantAddrsOk(t, list, false)
		wantPutAddr(t, list, put, []impl.Addr{one, put, three})
		// Another element does not help, and neither does a bad one.
		wantNoPutAddr(t, list, impl.Addr{Id: 15, Addr: 150})
		wantNoPutAddr(t, list, impl.Addr{Id: 20, Addr: 0})
		if bad.Addr != one.Addr {
			wantNoPutAddr(t, list, impl.Addr{Id: 10, Addr: 150})
		} else {
			wantPutAddr(t, list, impl.Addr{Id: 10, Addr: 150}, []impl.Addr{{Id: 10, Addr: 150}, bad, three})
		}
	}
	for _, list := range [][]impl.Addr{
		// The Ids fall.
		{three, one},
		{{Id: 20, Addr: 5}, one},
		{three, one, {Id: 20, Addr: 5}},
		// An Id stands twice, and only the first one is replaced.
		{{Id: 20, Addr: 5}, {Id: 20, Addr: 6}},
		{one, {Id: 20, Addr: 5}, {Id: 20, Addr: 5}, three},
		{one, {Id: 20, Addr: 5}, {Id: 20, Addr: 200}},
		{put, put},
		{one, one},
		{one, three, three},
		// There are too many, with and without the Id.
		rowOfAddrs(7),
		append([]impl.Addr{{Id: 1, Addr: 1}}, rowOfAddrs(6)...),
		{{Id: -1, Addr: 5}, {Id: 20, Addr: 6}},
		{one, {Id: mostId + 1, Addr: 6}},
	} {
		wantAddrsOk(t, list, false)
		wantNoPutAddr(t, list, put)
	}
}

func TestDropAddrAndAddrAtOfAnIdThatIsThere(t *testing.T) {
	for many := 1; many <= 9; many++ {
		list := rowOfAddrs(many)
		for i, a := range list {
			wantAddrAt(t, list, a.Id, i)
			wantDropAddr(t, list, a.Id, slices.Concat(list[:i], list[i+1:]))
			wantNoAddrAt(t, list, a.Id-1)
			wantNoAddrAt(t, list, a.Id+1)
			wantNoAddrAt(t, list, a.Id+256)
			wantNoAddrAt(t, list, a.Id+1<<32)
			// The Addr is no Id.
			wantNoAddrAt(t, list, a.Addr)
		}
		for _, id := range append(badIds(), 0, mostId) {
			wantNoAddrAt(t, list, id)
		}
	}
}

func TestDropAddrAndAddrAtOfAnEmptyList(t *testing.T) {
	for _, list := range [][]impl.Addr{nil, {}, rowOfAddrs(3)[:0]} {
		for _, id := range append(badIds(), 0, 1, 10, 20, mostId) {
			wantNoAddrAt(t, list, id)
		}
	}
}

// Of the elements with one Id only the first one is found and dropped. The list need not be valid, before or after.
func TestDropAddrAndAddrAtOfAnIdThatStandsTwice(t *testing.T) {
	a, b, c, other := impl.Addr{Id: 5, Addr: 50}, impl.Addr{Id: 5, Addr: 51, Spare: true}, impl.Addr{Id: 5, Addr: 52, Told: true}, impl.Addr{Id: 9, Addr: 90}
	for _, known := range []struct {
		list []impl.Addr
		at   int
		left []impl.Addr
	}{
		{[]impl.Addr{a, b}, 0, []impl.Addr{b}},
		{[]impl.Addr{b, a}, 0, []impl.Addr{a}},
		{[]impl.Addr{a, a}, 0, []impl.Addr{a}},
		{[]impl.Addr{other, a, b}, 1, []impl.Addr{other, b}},
		{[]impl.Addr{a, other, b}, 0, []impl.Addr{other, b}},
		{[]impl.Addr{a, b, other}, 0, []impl.Addr{b, other}},
		{[]impl.Addr{c, b, a}, 0, []impl.Addr{b, a}},
		{[]impl.Addr{other, c, other, b, other, a}, 1, []impl.Addr{other, other, b, other, a}},
		{[]impl.Addr{a, a, a, a}, 0, []impl.Addr{a, a, a}},
	} {
		wantAddrsOk(t, known.list, false)
		wantAddrAt(t, known.list, 5, known.at)
		wantDropAddr(t, known.list, 5, known.left)
		wantNoPutAddr(t, known.list, impl.Addr{Id: 5, Addr: 55})
		wantNoAddrAt(t, known.list, 6)
	}
	// One after the other.
	list := []impl.Addr{other, c, other, b, a}
	for _, want := range [][]impl.Addr{{other, other, b, a}, {other, other, a}, {other, other}} {
		wantDropAddr(t, list, 5, want)
		list, _ = impl.DropAddr(list, 5)
	}
	wantNoAddrAt(t, list, 5)
}

// An Id may be any number, and a list of any length, because DropAddr and AddrAt do not ask whether the list is valid.
func TestDropAddrAndAddrAtOfNumbersOutOfTheirRanges(t *testing.T) {
	for _, id := range badIds() {
		a := impl.Addr{Id: id, Addr: -3, Told: true}
		wantAddrAt(t, []impl.Addr{a}, id, 0)
		wantDropAddr(t, []impl.Addr{a}, id, nil)
		wantAddrAt(t, []impl.Addr{{Id: 3, Addr: 0}, a}, id, 1)
		wantDropAddr(t, []impl.Addr{{Id: 3, Addr: 0}, a}, id, []impl.Addr{{Id: 3, Addr: 0}})
		wantUntoldOf(t, []impl.Addr{{Id: id}, a, {Id: 3, Addr: 0}, {Id: id}}, id, 3, id)
	}
	long := rowOfAddrs(3000)
	for _, i := range []int{0, 1, 6, 255, 256, 1500, 2998, 2999} {
		wantAddrAt(t, long, long[i].Id, i)
		wantDropAddr(t, long, long[i].Id, slices.Concat(long[:i], long[i+1:]))
		wantNoPutAddr(t, long, long[i])
	}
	wantNoAddrAt(t, long, 15)
	wantTableUntold(t, long)
}

func TestUntoldOf(t *testing.T) {
	told := func(id int) impl.Addr { return impl.Addr{Id: id, Addr: id + 1, Told: true} }
	untold := func(id int) impl.Addr { return impl.Addr{Id: id, Addr: id + 1} }
	spare := func(id int) impl.Addr { return impl.Addr{Id: id, Addr: id + 1, Spare: true} }
	for _, known := range []struct {
		list []impl.Addr
		want []int
	}{
		{nil, nil},
		{[]impl.Addr{}, nil},
		{[]impl.Addr{told(0)}, nil},
		{[]impl.Addr{untold(0)}, []int{0}},
		{[]impl.Addr{untold(mostId)}, []int{mostId}},
		// None is told, and all are.
		{[]impl.Addr{untold(1), untold(2), spare(3)}, []int{1, 2, 3}},
		{[]impl.Addr{told(1), told(2), told(3)}, nil},
		{[]impl.Addr{{Id: 1, Addr: 5, Spare: true, Told: true}}, nil},
		{[]impl.Addr{told(1), untold(2), told(3)}, []int{2}},
		{[]impl.Addr{untold(1), told(2), spare(3)}, []int{1, 3}},
		{[]impl.Addr{untold(1), untold(2), untold(3), untold(4), untold(5), untold(6)}, []int{1, 2, 3, 4, 5, 6}},
		// Lists that are not valid: the Ids stay in the order of the list, and as often as they stand there.
		{[]impl.Addr{untold(3), told(2), untold(1)}, []int{3, 1}},
		{[]impl.Addr{untold(1), untold(1), told(1), spare(1)}, []int{1, 1, 1}},
		{[]impl.Addr{told(1), untold(1)}, []int{1}},
		{[]impl.Addr{untold(1), untold(2), untold(3), untold(4), told(5), untold(6), untold(7), untold(8)}, []int{1, 2, 3, 4, 6, 7, 8}},
		{[]impl.Addr{{Id: -4, Addr: -5}, {Id: 300, Addr: 0, Told: true}, {Id: 301}}, []int{-4, 301}},
	} {
		wantUntoldOf(t, known.list, known.want...)
	}
}

// Each of the elements may be told or not.
func TestUntoldOfEverySelection(t *testing.T) {
	for selection := range 1 << 7 {
		list := rowOfAddrs(7)
		var ids []int
		for i := range list {
			list[i].Told = selection>>i&1 == 1
			if !list[i].Told {
				ids = append(ids, list[i].Id)
			}
		}
		wantUntoldOf(t, list[:6], slices.DeleteFunc(slices.Clone(ids), func(id int) bool { return id == 70 })...)
		wantUntoldOf(t, list, ids...)
	}
}

// Promise 11: whatever is put and dropped, each address that is there is found as it was put last.
func TestAddrsThatWerePutAreFound(t *testing.T) {
	random := rand.New(rand.NewSource(11))
	for range 300 {
		var list []impl.Addr
		there := map[int]impl.Addr{}
		for range 60 {
			a := impl.Addr{Id: random.Intn(12), Addr: 1 + random.Intn(12), Spare: random.Intn(2) == 0, Told: random.Intn(2) == 0}
			if random.Intn(3) == 0 {
				shorter, ok := impl.DropAddr(list, a.Id)
				if _, had := there[a.Id]; ok != had {
					t.Fatalf("DropAddr(%v, %d) is %v", list, a.Id, ok)
				}
				list = shorter
				delete(there, a.Id)
			} else {
				want := mayPut(there, a)
				longer, ok := impl.PutAddr(list, a)
				if ok != want {
					t.Fatalf("PutAddr(%v, %v) is %v", list, a, ok)
				}
				list = longer
				if ok {
					there[a.Id] = a
				}
			}
			wantAddrsOk(t, list, true)
			wantJust(t, list, there)
		}
	}
}

// mayPut reports whether there is room for a, and no address with another Id has its Addr.
func mayPut(there map[int]impl.Addr, a impl.Addr) bool {
	for id, other := range there {
		if id != a.Id && other.Addr == a.Addr {
			return false
		}
	}
	_, had := there[a.Id]
	return had || len(there) < mostAddrs
}

// wantJust checks that the addresses of list are those that are there, each of which is found.
func wantJust(t *testing.T, list []impl.Addr, there map[int]impl.Addr) {
	t.Helper()
	if len(list) != len(there) {
		t.Fatalf("%v has not the %d addresses %v", list, len(there), there)
	}
	for id := -1; id <= 12; id++ {
		at := impl.AddrAt(list, id)
		a, ok := there[id]
		if ok != (at >= 0) || ok && list[at] != a {
			t.Fatalf("in %v the address %v is at %d", list, a, at)
		}
	}
}

// All lists of up to three elements with small numbers, valid or not, with all such elements to put and drop.
func TestAddrsOfAllSmallLists(t *testing.T) {
	var elements []impl.Addr
	for id := -1; id <= 2; id++ {
		for n := range 4 {
			elements = append(elements, impl.Addr{Id: id, Addr: n, Spare: n == 2, Told: (id+n)%2 == 0})
		}
	}
	lists := [][]impl.Addr{nil}
	// Each list is visited, and so are those that are longer by one element, up to three.
	for i := 0; i < len(lists); i++ {
		list := lists[i]
		wantAddrsOk(t, list, tableAddrsOk(list))
		wantTableUntold(t, list)
		for _, a := range elements {
			wantTablePutAddr(t, list, a)
			if len(list) < 3 {
				lists = append(lists, append(slices.Clone(list), a))
			}
		}
		for id := -2; id <= 3; id++ {
			wantTableDropAddr(t, list, id)
		}
	}
}

// anyAddr returns an address whose numbers are often near the limits, and often those of others.
func anyAddr(r *rand.Rand) impl.Addr {
	ids := []int{-1, 0, 1, 2, 3, 4, 5, 6, 7, 100, 254, 255, 256}
	numbers := []int{0, 1, 2, 3, 4, 5, 6, 7, 8, 9, 10, 11, 12, 65534, 65535, 65536}
	return impl.Addr{Id: ids[r.Intn(len(ids))], Addr: numbers[r.Intn(len(numbers))], Spare: r.Intn(2) == 0, Told: r.Intn(2) == 0}
}

// Random lists of up to eight elements, in the order of the Ids or in any order.
func TestAddrsOfRandomLists(t *testing.T) {
	random := rand.New(rand.NewSource(12))
	for range 20000 {
		list := make([]impl.Addr, random.Intn(9))
		for i := range list {
			list[i] = anyAddr(random)
		}
		if random.Intn(4) != 0 {
			slices.SortStableFunc(list, func(a impl.Addr, b impl.Addr) int { return a.Id - b.Id })
		}
		if random.Intn(4) != 0 {
			list = slices.CompactFunc(list, func(a impl.Addr, b impl.Addr) bool { return a.Id == b.Id })
		}
		if random.Intn(2) == 0 {
			for i := range list {
				list[i].Addr = 20 + i
			}
		}
		wantAddrsOk(t, list, tableAddrsOk(list))
		wantTableUntold(t, list)
		for range 3 {
			a := anyAddr(random)
			wantTablePutAddr(t, list, a)
			wantTableDropAddr(t, list, a.Id)
		}
	}
}

// Each result belongs to the caller alone: changing it, or the argument, changes no other result.
func TestAddrsReturnNewMemory(t *testing.T) {
	for _, list := range append(validAddrs(), invalidAddrs()...) {
		first := 77
		if len(list) > 0 {
			first = list[0].Id
		}
		for name, call := range map[string]func(list []impl.Addr) []impl.Addr{
			"PutAddr of a new Id": func(list []impl.Addr) []impl.Addr {
				put, _ := impl.PutAddr(list, impl.Addr{Id: 77, Addr: 9999})
				return put
			},
			"PutAddr of an old Id": func(list []impl.Addr) []impl.Addr {
				put, _ := impl.PutAddr(list, impl.Addr{Id: first, Addr: 9999})
				return put
			},
			"refused PutAddr":  func(list []impl.Addr) []impl.Addr { put, _ := impl.PutAddr(list, impl.Addr{}); return put },
			"DropAddr":         func(list []impl.Addr) []impl.Addr { left, _ := impl.DropAddr(list, first); return left },
			"refused DropAddr": func(list []impl.Addr) []impl.Addr { left, _ := impl.DropAddr(list, 78); return left },
		} {
			wantOwnLists(t, name, list, impl.Addr{Id: 99, Addr: 98, Spare: true}, call)
		}
		one, two := impl.UntoldOf(list), impl.UntoldOf(list)
		want := slices.Clone(two)
		for i := range one {
			one[i] = -99
		}
		if sharesElements(one, two) || !slices.Equal(two, want) {
			t.Errorf("the results of UntoldOf(%v) share memory", list)
		}
	}
}
