package tests

import (
	"math"
	"math/rand"
	"slices"
	"testing"

	"loop.example/g00967/impl"
)

// The limits of the paths that are wanted, and of those that are compared, as the document states them.
const (
	mostWanted = 8
	mostRoads  = 64
)

// wantPolicyOk checks PolicyOk, and that a policy that is not valid wants nothing.
func wantPolicyOk(t *testing.T, p impl.Policy, want bool) {
	t.Helper()
	if got := impl.PolicyOk(p); got != want {
		t.Errorf("PolicyOk(%v) is %v", p, got)
	}
	if got := tablePolicyOk(p); got != want {
		t.Errorf("the tests say %v of %v", got, p)
	}
	if got := impl.WantedOf(p, rowOfAddrs(2), rowOfAddrs(2)); (len(got) > 0) != want {
		t.Errorf("WantedOf of %v is %v", p, got)
	}
}

// wantWanted checks that WantedOf returns want, with own and far in their places and not exchanged.
func wantWanted(t *testing.T, p impl.Policy, own []impl.Addr, far []impl.Addr, want ...impl.Road) {
	t.Helper()
	spare := []impl.Addr{{Id: 7, Addr: 70}, {Id: 8, Addr: 80, Spare: true}, {Id: 9, Addr: 90, Told: true}}
	onTwoLists(t, "WantedOf", own, far, spare, want, func(own []impl.Addr, far []impl.Addr) []impl.Road {
		return impl.WantedOf(p, own, far)
	})
}

func wantMissing(t *testing.T, wanted []impl.Road, have []impl.Road, want ...impl.Road) {
	t.Helper()
	spare := []impl.Road{{Own: 7, Far: 70}, {Own: 8, Far: 80, Port: 2}}
	onTwoLists(t, "MissingOf", wanted, have, spare, want, impl.MissingOf)
}

// wantRoadBack checks RoadBack, in both directions.
func wantRoadBack(t *testing.T, r impl.Road, back impl.Road) {
	t.Helper()
	if got := impl.RoadBack(r); got != back {
		t.Errorf("RoadBack(%v) = %v; want %v", r, got, back)
	}
	if got := impl.RoadBack(back); got != r {
		t.Errorf("RoadBack(%v) = %v; want %v", back, got, r)
	}
}

// tablePolicyOk is PolicyOk, from the list of all policies that are valid.
func tablePolicyOk(p impl.Policy) bool { return slices.Contains(validPolicies(), p) }

// validPolicies are all policies that are valid.
func validPolicies() []impl.Policy {
	return []impl.Policy{
		{Kind: 1}, {Kind: 3},
		{Kind: 2, Many: 1}, {Kind: 2, Many: 2}, {Kind: 2, Many: 3}, {Kind: 2, Many: 4},
		{Kind: 2, Many: 5}, {Kind: 2, Many: 6}, {Kind: 2, Many: 7}, {Kind: 2, Many: 8},
	}
}

// tableWanted is WantedOf: each path is found from its number.
func tableWanted(p impl.Policy, own []impl.Addr, far []impl.Addr) []impl.Road {
	fits := func(list []impl.Addr) bool { return len(list) > 0 && len(list) <= mostAddrs }
	if !tablePolicyOk(p) || !fits(own) || !fits(far) {
		return nil
	}
	if p.Kind != 1 {
		roads := []impl.Road{{Own: own[0].Addr, Far: far[0].Addr}}
		for len(roads) < p.Many {
			roads = append(roads, impl.Road{Own: own[0].Addr, Far: far[0].Addr, Port: len(roads)})
		}
		return roads
	}
	var roads []impl.Road
	for n := 0; n < mostWanted && n < len(own)*len(far); n++ {
		roads = append(roads, impl.Road{Own: own[n/len(far)].Addr, Far: far[n%len(far)].Addr})
	}
	return roads
}

// tableMissing is MissingOf: the elements of have are taken away from wanted one after the other.
func tableMissing(wanted []impl.Road, have []impl.Road) []impl.Road {
	if len(wanted) > mostRoads || len(have) > mostRoads {
		return nil
	}
	left := slices.Clone(wanted)
	for _, h := range have {
		left = slices.DeleteFunc(left, func(r impl.Road) bool { return r.Own == h.Own && r.Far == h.Far && r.Port == h.Port })
	}
	return left
}

// farRow returns many addresses, none of which has an Addr of rowOfAddrs.
func farRow(many int) []impl.Addr {
	list := make([]impl.Addr, many)
	for i := range list {
		list[i] = impl.Addr{Id: 3 * i, Addr: 1001 + 7*i, Spare: i%2 == 0, Told: i%3 == 0}
	}
	return list
}

// rowOfRoads returns many paths, no two of which are equal.
func rowOfRoads(many int) []impl.Road {
	list := make([]impl.Road, many)
	for i := range list {
		list[i] = impl.Road{Own: 10 + i/6, Far: 20 + i/2%3, Port: i % 2}
	}
	return list
}

// farNumbers are numbers that are far from those of the document.
func farNumbers() []int {
	return []int{100, 255, 256, 257, 258, 259, 1 << 32, 1<<32 + 1, 1<<32 + 2, 1<<32 + 3, -1 << 32, math.MaxInt, math.MinInt, math.MinInt + 1, math.MinInt + 2, math.MinInt + 3}
}

func TestPolicyConstants(t *testing.T) {
	if impl.PoMesh != 1 || impl.PoMany != 2 || impl.PoOne != 3 || impl.MaxWanted != mostWanted {
		t.Error("constants", impl.PoMesh, impl.PoMany, impl.PoOne, impl.MaxWanted)
	}
}

func TestPolicyOkOfEachKind(t *testing.T) {
	for _, known := range []struct {
		p    impl.Policy
		want bool
	}{
		{impl.Policy{Kind: impl.PoMesh}, true},
		{impl.Policy{Kind: impl.PoMesh, Many: 1}, false},
		{impl.Policy{Kind: impl.PoMesh, Many: 8}, false},
		{impl.Policy{Kind: impl.PoMesh, Many: 9}, false},
		{impl.Policy{Kind: impl.PoMesh, Many: -1}, false},
		{impl.Policy{Kind: impl.PoMany}, false},
		{impl.Policy{Kind: impl.PoMany, Many: 1}, true},
		{impl.Policy{Kind: impl.PoMany, Many: 5}, true},
		{impl.Policy{Kind: impl.PoMany, Many: 8}, true},
		{impl.Policy{Kind: impl.PoMany, Many: 9}, false},
		{impl.Policy{Kind: impl.PoMany, Many: -1}, false},
		{impl.Policy{Kind: impl.PoOne}, true},
		{impl.Policy{Kind: impl.PoOne, Many: 1}, false},
		{impl.Policy{Kind: impl.PoOne, Many: 8}, false},
		{impl.Policy{Kind: impl.PoOne, Many: 9}, false},
		{impl.Policy{Kind: impl.PoOne, Many: -1}, false},
		{impl.Policy{}, false},
		{impl.Policy{Kind: 0, Many: 1}, false},
		{impl.Policy{Kind: 4}, false},
		{impl.Policy{Kind: 4, Many: 1}, false},
		{impl.Policy{Kind: -1}, false},
		{impl.Policy{Kind: -1, Many: 1}, false},
		{impl.Policy{Kind: -2, Many: 2}, false},
		{impl.Policy{Kind: -3}, false},
	} {
		wantPolicyOk(t, known.p, known.want)
	}
}

func TestPolicyOkOfEveryKindAndMany(t *testing.T) {
	kinds, manys := farNumbers(), farNumbers()
	for n := -20; n <= 20; n++ {
		kinds, manys = append(kinds, n), append(manys, n)
	}
	for _, kind := range kinds {
		for _, many := range manys {
			wantPolicyOk(t, impl.Policy{Kind: kind, Many: many}, tablePolicyOk(impl.Policy{Kind: kind, Many: many}))
		}
	}
}

func TestWantedOfAMesh(t *testing.T) {
	mesh := impl.Policy{Kind: impl.PoMesh}
	own, far := []impl.Addr{{Id: 0, Addr: 11}, {Id: 1, Addr: 12}, {Id: 2, Addr: 13}}, []impl.Addr{{Id: 5, Addr: 21}, {Id: 6, Addr: 22}, {Id: 7, Addr: 23}, {Id: 8, Addr: 24}}
	wantWanted(t, mesh, own[:1], far[:1], impl.Road{Own: 11, Far: 21})
	wantWanted(t, mesh, own[:1], far[:3], impl.Road{Own: 11, Far: 21}, impl.Road{Own: 11, Far: 22}, impl.Road{Own: 11, Far: 23})
	wantWanted(t, mesh, own[:3], far[:1], impl.Road{Own: 11, Far: 21}, impl.Road{Own: 12, Far: 21}, impl.Road{Own: 13, Far: 21})
	wantWanted(t, mesh, own[:2], far[:2], impl.Road{Own: 11, Far: 21}, impl.Road{Own: 11, Far: 22}, impl.Road{Own: 12, Far: 21}, impl.Road{Own: 12, Far: 22})
	// Just MaxWanted paths.
	wantWanted(t, mesh, own[:2], far,
		impl.Road{Own: 11, Far: 21}, impl.Road{Own: 11, Far: 22}, impl.Road{Own: 11, Far: 23}, impl.Road{Own: 11, Far: 24},
		impl.Road{Own: 12, Far: 21}, impl.Road{Own: 12, Far: 22}, impl.Road{Own: 12, Far: 23}, impl.Road{Own: 12, Far: 24})
	wantWanted(t, mesh, far, own[:2],
		impl.Road{Own: 21, Far: 11}, impl.Road{Own: 21, Far: 12}, impl.Road{Own: 22, Far: 11}, impl.Road{Own: 22, Far: 12},
		impl.Road{Own: 23, Far: 11}, impl.Road{Own: 23, Far: 12}, impl.Road{Own: 24, Far: 11}, impl.Road{Own: 24, Far: 12})
	// One more: the last path of the last own address is left out.
	wantWanted(t, mesh, own, far[:3],
		impl.Road{Own: 11, Far: 21}, impl.Road{Own: 11, Far: 22}, impl.Road{Own: 11, Far: 23},
		impl.Road{Own: 12, Far: 21}, impl.Road{Own: 12, Far: 22}, impl.Road{Own: 12, Far: 23},
		impl.Road{Own: 13, Far: 21}, impl.Road{Own: 13, Far: 22})
	// MaxAddrs times MaxAddrs: only the first two own addresses have paths.
	wantWanted(t, mesh, rowOfAddrs(6), farRow(6),
		impl.Road{Own: 100, Far: 1001}, impl.Road{Own: 100, Far: 1008}, impl.Road{Own: 100, Far: 1015},
		impl.Road{Own: 100, Far: 1022}, impl.Road{Own: 100, Far: 1029}, impl.Road{Own: 100, Far: 1036},
		impl.Road{Own: 200, Far: 1001}, impl.Road{Own: 200, Far: 1008})
	wantWanted(t, mesh, rowOfAddrs(6), farRow(1),
		impl.Road{Own: 100, Far: 1001}, impl.Road{Own: 200, Far: 1001}, impl.Road{Own: 300, Far: 1001},
		impl.Road{Own: 400, Far: 1001}, impl.Road{Own: 500, Far: 1001}, impl.Road{Own: 600, Far: 1001})
}

func TestWantedOfManyPorts(t *testing.T) {
	roads := make([]impl.Road, mostWanted)
	for port := range roads {
		roads[port] = impl.Road{Own: 100, Far: 1001, Port: port}
	}
	for own := 1; own <= mostAddrs; own++ {
		for far := 1; far <= mostAddrs; far++ {
			for many := 1; many <= mostWanted; many++ {
				wantWanted(t, impl.Policy{Kind: impl.PoMany, Many: many}, rowOfAddrs(own), farRow(far), roads[:many]...)
			}
			wantWanted(t, impl.Policy{Kind: impl.PoOne}, rowOfAddrs(own), farRow(far), roads[0])
		}
	}
	own, far := []impl.Addr{{Id: 4, Addr: 9}, {Id: 5, Addr: 8}}, []impl.Addr{{Id: 2, Addr: 3}}
	wantWanted(t, impl.Policy{Kind: impl.PoMany, Many: 1}, own, far, impl.Road{Own: 9, Far: 3})
	wantWanted(t, impl.Policy{Kind: impl.PoMany, Many: 3}, own, far, impl.Road{Own: 9, Far: 3}, impl.Road{Own: 9, Far: 3, Port: 1}, impl.Road{Own: 9, Far: 3, Port: 2})
	wantWanted(t, impl.Policy{Kind: impl.PoMany, Many: 2}, far, own, impl.Road{Own: 3, Far: 9}, impl.Road{Own: 3, Far: 9, Port: 1})
	wantWanted(t, impl.Policy{Kind: impl.PoOne}, own, far, impl.Road{Own: 9, Far: 3})
	wantWanted(t, impl.Policy{Kind: impl.PoOne}, far, own, impl.Road{Own: 3, Far: 9})
}

// Where own or far is empty, or too long by one or more, nothing is wanted, whatever the other one is.
func TestWantedOfNoOrTooManyAddrs(t *testing.T) {
	bad := []int{0, 7, 8, 12, 13, 64, 256, 257, 262, 1000}
	for _, p := range validPolicies() {
		for _, many := range bad {
			for _, other := range append([]int{1, 2, 3, 4, 5, 6}, bad...) {
				wantWanted(t, p, rowOfAddrs(many), farRow(other))
				wantWanted(t, p, rowOfAddrs(other), farRow(many))
			}
		}
		wantWanted(t, p, nil, nil)
		wantWanted(t, p, []impl.Addr{}, nil)
	}
}

func TestWantedOfPoliciesThatAreNotValid(t *testing.T) {
	policies := []impl.Policy{{}, {Kind: 0, Many: 1}, {Kind: 4}, {Kind: 4, Many: 4}, {Kind: 2}, {Kind: 2, Many: 9}, {Kind: 2, Many: -1}}
	for _, n := range append(farNumbers(), -1, -2, -3, 9, 10) {
		policies = append(policies, impl.Policy{Kind: n}, impl.Policy{Kind: n, Many: 1})
		for kind := 1; kind <= 3; kind++ {
			policies = append(policies, impl.Policy{Kind: kind, Many: n})
		}
	}
	for _, p := range policies {
		for own := range 8 {
			for far := range 8 {
				wantWanted(t, p, rowOfAddrs(own), farRow(far))
			}
		}
	}
}

// Each policy, valid or not, with each number of own and far addresses.
func TestWantedOfEveryPolicyAndNumberOfAddrs(t *testing.T) {
	for kind := -1; kind <= 5; kind++ {
		for many := -2; many <= 10; many++ {
			p := impl.Policy{Kind: kind, Many: many}
			for own := range 9 {
				for far := range 9 {
					wantWanted(t, p, rowOfAddrs(own), farRow(far), tableWanted(p, rowOfAddrs(own), farRow(far))...)
				}
			}
		}
	}
}

// The paths are given by the Addrs alone: Ids, Spare and Told do not count, and the lists need not be valid.
func TestWantedOfListsThatAreNotValid(t *testing.T) {
	mesh, many, one := impl.Policy{Kind: impl.PoMesh}, impl.Policy{Kind: impl.PoMany, Many: 2}, impl.Policy{Kind: impl.PoOne}
	same := []impl.Addr{{Id: 1, Addr: 5}, {Id: 1, Addr: 5}}
	wantWanted(t, mesh, same, []impl.Addr{{Addr: 6}}, impl.Road{Own: 5, Far: 6}, impl.Road{Own: 5, Far: 6})
	wantWanted(t, mesh, []impl.Addr{{Addr: 6}}, same, impl.Road{Own: 6, Far: 5}, impl.Road{Own: 6, Far: 5})
	falling := []impl.Addr{{Id: 9, Addr: 7, Spare: true}, {Id: -4, Addr: 0}, {Id: 300, Addr: -1, Told: true}}
	wantWanted(t, mesh, falling, []impl.Addr{{Addr: math.MaxInt}},
		impl.Road{Own: 7, Far: math.MaxInt}, impl.Road{Own: 0, Far: math.MaxInt}, impl.Road{Own: -1, Far: math.MaxInt})
	wantWanted(t, many, falling[1:], falling[2:], impl.Road{Own: 0, Far: -1}, impl.Road{Own: 0, Far: -1, Port: 1})
	wantWanted(t, one, falling[2:], falling, impl.Road{Own: -1, Far: 7})
	// The same address may be an own one and a far one.
	wantWanted(t, one, same, same, impl.Road{Own: 5, Far: 5})
	for _, own := range invalidAddrs() {
		for _, p := range []impl.Policy{mesh, many, one} {
			wantWanted(t, p, own, farRow(2), tableWanted(p, own, farRow(2))...)
			wantWanted(t, p, farRow(2), own, tableWanted(p, farRow(2), own)...)
		}
	}
}

// wantedMany returns how many paths a valid policy wants.
func wantedMany(p impl.Policy, own int, far int) int {
	switch p.Kind {
	case impl.PoMesh:
		return min(own*far, mostWanted)
	case impl.PoMany:
		return p.Many
	}
	return 1
}

// wantDistinct checks that no two roads are equal, and that each is one between an own and a far address.
func wantDistinct(t *testing.T, roads []impl.Road, own []impl.Addr, far []impl.Addr) {
	t.Helper()
	had := map[impl.Road]bool{}
	for _, r := range roads {
		isOwn := slices.ContainsFunc(own, func(a impl.Addr) bool { return a.Addr == r.Own })
		isFar := slices.ContainsFunc(far, func(a impl.Addr) bool { return a.Addr == r.Far })
		if had[r] || !isOwn || !isFar || r.Port < 0 || r.Port >= mostWanted {
			t.Errorf("the path %v of %v from %v to %v", r, roads, own, far)
		}
		had[r] = true
	}
}

// Promise 12: between valid lists of addresses each policy wants distinct paths, and as many as it states.
func TestPoliciesWantDistinctPaths(t *testing.T) {
	for _, p := range validPolicies() {
		for _, own := range validAddrs() {
			for _, far := range validAddrs() {
				roads := impl.WantedOf(p, own, far)
				wantDistinct(t, roads, own, far)
				many := 0
				if len(own) > 0 && len(far) > 0 {
					many = wantedMany(p, len(own), len(far))
				}
				if len(roads) != many {
					t.Errorf("WantedOf(%v, %v, %v) are %d paths", p, own, far, len(roads))
				}
				wantWanted(t, p, own, far, tableWanted(p, own, far)...)
			}
		}
	}
}

// The two endpoints of a mesh that is small enough, and of the other policies, want the same paths.
func TestRoadsBackAreWantedByTheOtherEndpoint(t *testing.T) {
	for _, p := range validPolicies() {
		for own := 1; own <= mostAddrs; own++ {
			for far := 1; far <= mostAddrs && own*far <= mostWanted; far++ {
				roads, back := impl.WantedOf(p, rowOfAddrs(own), farRow(far)), impl.WantedOf(p, farRow(far), rowOfAddrs(own))
				for i, r := range roads {
					roads[i] = impl.RoadBack(r)
				}
				wantMissing(t, roads, back)
				wantMissing(t, back, roads)
			}
		}
	}
}

func TestMissingOfKnownRoads(t *testing.T) {
	a, b, c, d := impl.Road{Own: 11, Far: 21}, impl.Road{Own: 12, Far: 21}, impl.Road{Own: 11, Far: 22, Port: 1}, impl.Road{Own: 1, Far: 1, Port: 7}
	for _, known := range []struct {
		wanted []impl.Road
		have   []impl.Road
		want   []impl.Road
	}{
		{nil, nil, nil},
		{nil, []impl.Road{a}, nil},
		{[]impl.Road{}, []impl.Road{a, b}, nil},
		{[]impl.Road{a}, nil, []impl.Road{a}},
		{[]impl.Road{c, a, b}, []impl.Road{}, []impl.Road{c, a, b}},
		// None is missing: the order of have, and what stands in it besides, do not count.
		{[]impl.Road{a}, []impl.Road{a}, nil},
		{[]impl.Road{a, b, c}, []impl.Road{a, b, c}, nil},
		{[]impl.Road{a, b, c}, []impl.Road{c, d, a, b, a}, nil},
		// All are missing.
		{[]impl.Road{a}, []impl.Road{b}, []impl.Road{a}},
		{[]impl.Road{d, b}, []impl.Road{a, c}, []impl.Road{d, b}},
		// Some are missing, and stay in order.
		{[]impl.Road{a, b, c, d}, []impl.Road{a}, []impl.Road{b, c, d}},
		{[]impl.Road{a, b, c, d}, []impl.Road{d}, []impl.Road{a, b, c}},
		{[]impl.Road{a, b, c, d}, []impl.Road{c, b}, []impl.Road{a, d}},
		{[]impl.Road{d, c, b, a}, []impl.Road{b}, []impl.Road{d, c, a}},
		{[]impl.Road{b, d, a, c}, []impl.Road{d, c}, []impl.Road{b, a}},
		// An element that stands twice is missing twice, or not at all.
		{[]impl.Road{a, a}, nil, []impl.Road{a, a}},
		{[]impl.Road{a, b, a}, []impl.Road{b}, []impl.Road{a, a}},
		{[]impl.Road{a, b, a}, []impl.Road{a}, []impl.Road{b}},
		{[]impl.Road{a, a, b, b}, []impl.Road{a}, []impl.Road{b, b}},
		{[]impl.Road{a, b}, []impl.Road{a, a}, []impl.Road{b}},
		// Any numbers are compared, and the zero path is a path too.
		{[]impl.Road{{}}, []impl.Road{a}, []impl.Road{{}}},
		{[]impl.Road{{}, a}, []impl.Road{{}}, []impl.Road{a}},
		{[]impl.Road{{Own: -1, Far: math.MinInt, Port: math.MaxInt}}, []impl.Road{{Own: -1, Far: math.MinInt, Port: math.MaxInt}}, nil},
		{[]impl.Road{{Own: -1, Far: math.MinInt, Port: math.MaxInt}}, []impl.Road{{Own: -1, Far: math.MinInt, Port: -1}}, []impl.Road{{Own: -1, Far: math.MinInt, Port: math.MaxInt}}},
	} {
		wantMissing(t, known.wanted, known.have, known.want...)
	}
}

// Paths that differ in one field are different, and so is the path back.
func TestMissingOfRoadsThatDifferInOneField(t *testing.T) {
	r := impl.Road{Own: 11, Far: 21, Port: 1}
	for _, n := range append(farNumbers(), -1, 0, 1, 2, 10, 11, 12, 20, 21, 22) {
		for _, other := range []impl.Road{{Own: n, Far: 21, Port: 1}, {Own: 11, Far: n, Port: 1}, {Own: 11, Far: 21, Port: n}} {
			if other == r {
				continue
			}
			wantMissing(t, []impl.Road{r}, []impl.Road{other}, r)
			wantMissing(t, []impl.Road{other}, []impl.Road{r}, other)
			wantMissing(t, []impl.Road{r, other}, []impl.Road{other}, r)
			wantMissing(t, []impl.Road{r, other}, []impl.Road{r}, other)
			wantMissing(t, []impl.Road{r, other}, []impl.Road{other, r})
		}
	}
	wantMissing(t, []impl.Road{r}, []impl.Road{impl.RoadBack(r)}, r)
}

// 64 elements are compared, and 65 in either of the two are not.
func TestMissingOfEveryNumberOfRoads(t *testing.T) {
	few, other := rowOfRoads(3), impl.Road{Own: 1, Far: 2, Port: 3}
	for many := range 131 {
		list := rowOfRoads(many)
		if many <= mostRoads {
			wantMissing(t, list, nil, list...)
			wantMissing(t, list, few, list[min(3, many):]...)
			wantMissing(t, few, list, few[min(3, many):]...)
			wantMissing(t, []impl.Road{other}, list, other)
		} else {
			wantMissing(t, list, nil)
			wantMissing(t, list, few)
			wantMissing(t, few, list)
			wantMissing(t, []impl.Road{other}, list)
		}
		wantMissing(t, nil, list)
		wantMissing(t, list, list)
	}
	for _, many := range []int{256, 257, 300, 320, 512, 1000} {
		wantMissing(t, rowOfRoads(many), few)
		wantMissing(t, []impl.Road{other}, rowOfRoads(many))
		wantMissing(t, rowOfRoads(many), rowOfRoads(many))
	}
	wantMissing(t, rowOfRoads(64), rowOfRoads(63), rowOfRoads(64)[63])
	wantMissing(t, rowOfRoads(64), rowOfRoads(64)[1:], rowOfRoads(64)[0])
	wantMissing(t, rowOfRoads(65), rowOfRoads(64))
	wantMissing(t, rowOfRoads(64)[:40], rowOfRoads(65)[41:], rowOfRoads(40)...)
	wantMissing(t, rowOfRoads(64)[:40], rowOfRoads(106)[41:])
	// The number of elements counts, not that of paths.
	same := slices.Repeat([]impl.Road{other}, 65)
	wantMissing(t, same[:64], few, same[:64]...)
	wantMissing(t, same, few)
	wantMissing(t, few, same[:64], few...)
	wantMissing(t, few, same)
}

// All lists of up to three elements of a small number of paths.
func TestMissingOfAllSmallLists(t *testing.T) {
	elements := []impl.Road{{Own: 1, Far: 2}, {Own: 2, Far: 1}, {Own: 1, Far: 2, Port: 1}, {Own: 1, Far: 1}}
	lists := [][]impl.Road{nil}
	// Each list is visited, and followed by those that are longer by one element.
	for i := 0; i < len(lists); i++ {
		for _, r := range elements {
			if len(lists[i]) < 3 {
				lists = append(lists, append(slices.Clone(lists[i]), r))
			}
		}
	}
	for _, wanted := range lists {
		for _, have := range lists {
			wantMissing(t, wanted, have, tableMissing(wanted, have)...)
		}
	}
}

func TestMissingOfRandomLists(t *testing.T) {
	random := rand.New(rand.NewSource(12))
	anyRoads := func() []impl.Road {
		list := make([]impl.Road, random.Intn(67))
		for i := range list {
			list[i] = impl.Road{Own: 1 + random.Intn(3), Far: 1 + random.Intn(3), Port: random.Intn(8)}
		}
		return list
	}
	for range 5000 {
		wanted, have := anyRoads(), anyRoads()
		wantMissing(t, wanted, have, tableMissing(wanted, have)...)
	}
}

// Once the missing paths are there, none is missing; and none is missing that is there.
func TestMissingRoadsComplete(t *testing.T) {
	for _, p := range validPolicies() {
		roads := impl.WantedOf(p, rowOfAddrs(4), farRow(3))
		for selection := range 1 << len(roads) {
			var have, left []impl.Road
			for i, r := range roads {
				if selection>>i&1 == 1 {
					have = append(have, r)
				} else {
					left = append(left, r)
				}
			}
			wantMissing(t, roads, have, left...)
			wantMissing(t, roads, slices.Concat(left, have))
		}
	}
}

func TestRoadBack(t *testing.T) {
	for _, known := range []struct {
		r    impl.Road
		back impl.Road
	}{
		{impl.Road{Own: 11, Far: 21}, impl.Road{Own: 21, Far: 11}},
		{impl.Road{Own: 11, Far: 21, Port: 7}, impl.Road{Own: 21, Far: 11, Port: 7}},
		{impl.Road{Own: 1, Far: 65535, Port: 2}, impl.Road{Own: 65535, Far: 1, Port: 2}},
		// Own and Far are equal.
		{impl.Road{Own: 11, Far: 11}, impl.Road{Own: 11, Far: 11}},
		{impl.Road{Own: 11, Far: 11, Port: 3}, impl.Road{Own: 11, Far: 11, Port: 3}},
		{impl.Road{}, impl.Road{}},
		{impl.Road{Port: 5}, impl.Road{Port: 5}},
		// Port is equal to one of the others.
		{impl.Road{Own: 3, Far: 4, Port: 3}, impl.Road{Own: 4, Far: 3, Port: 3}},
		{impl.Road{Own: 3, Far: 4, Port: 4}, impl.Road{Own: 4, Far: 3, Port: 4}},
		// Numbers that no path has.
		{impl.Road{Own: 0, Far: -1, Port: 100}, impl.Road{Own: -1, Far: 0, Port: 100}},
		{impl.Road{Own: math.MinInt, Far: math.MaxInt, Port: math.MinInt}, impl.Road{Own: math.MaxInt, Far: math.MinInt, Port: math.MinInt}},
	} {
		wantRoadBack(t, known.r, known.back)
	}
}

func TestRoadBackOfEveryRoad(t *testing.T) {
	for own := -2; own <= 12; own++ {
		for far := -2; far <= 12; far++ {
			for port := -2; port <= 12; port++ {
				wantRoadBack(t, impl.Road{Own: own, Far: far, Port: port}, impl.Road{Own: far, Far: own, Port: port})
			}
		}
	}
}

// Each result belongs to the caller alone: changing it, or the argument, changes no other result.
func TestRoadsAreNewMemory(t *testing.T) {
	stray := impl.Road{Own: 99, Far: 98, Port: 97}
	for _, many := range []int{0, 1, 2, 8, 63, 64, 65} {
		for name, have := range map[string][]impl.Road{"none": nil, "one": rowOfRoads(1), "others": {{Own: 5}, {Own: 6}}} {
			wantOwnLists(t, "MissingOf, have "+name, rowOfRoads(many), stray, func(list []impl.Road) []impl.Road {
				return impl.MissingOf(list, have)
			})
		}
		wantOwnLists(t, "MissingOf, from 65", rowOfRoads(many), stray, func(list []impl.Road) []impl.Road {
			return impl.MissingOf(rowOfRoads(8), list)
		})
	}
	for _, p := range validPolicies() {
		first, second := impl.WantedOf(p, rowOfAddrs(3), farRow(3)), impl.WantedOf(p, rowOfAddrs(3), farRow(3))
		want := slices.Clone(second)
		if sharesElements(first, second) {
			t.Errorf("the results of WantedOf of %v share memory", p)
		}
		for i := range first[:cap(first)] {
			first[:cap(first)][i] = stray
		}
		if !slices.Equal(second, want) {
			t.Errorf("WantedOf of %v is changed to %v", p, second)
		}
		wantWanted(t, p, rowOfAddrs(3), farRow(3), want...)
	}
}
