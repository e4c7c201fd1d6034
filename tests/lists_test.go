package tests

import (
	"slices"
	"testing"
	"unsafe"
)

// withSpare returns list in new memory, with the spare elements in the capacity behind it.
func withSpare[E any](list []E, spare ...E) []E {
	longer := append(make([]E, 0, len(list)+len(spare)), list...)
	return append(longer, spare...)[:len(list)]
}

// sharesElements reports whether an element of a, or of the spare capacity behind it, is one of b too.
func sharesElements[E any](a []E, b []E) bool {
	if cap(a) == 0 || cap(b) == 0 {
		return false
	}
	startA, startB := uintptr(unsafe.Pointer(unsafe.SliceData(a))), uintptr(unsafe.Pointer(unsafe.SliceData(b)))
	var element E
	size := unsafe.Sizeof(element)
	return startA < startB+uintptr(cap(b))*size && startB < startA+uintptr(cap(a))*size
}

// onAnyList calls f with list, without and with the spare elements behind it, and checks that f leaves both alone and returns want in new memory.
func onAnyList[E comparable](t *testing.T, what string, list []E, spare []E, want []E, f func(list []E) []E) {
	t.Helper()
	for _, behind := range [][]E{nil, spare} {
		given := withSpare(list, behind...)
		got := f(given)
		if !slices.Equal(got, want) {
			t.Errorf("%s of %v = %v; want %v", what, list, got, want)
		}
		if sharesElements(got, given) {
			t.Errorf("%s of %v shares memory with its argument", what, list)
		}
		if kept := withSpare(list, behind...); !slices.Equal(given[:cap(given)], kept[:cap(kept)]) {
			t.Errorf("%s of %v has changed its argument to %v", what, list, given[:cap(given)])
		}
	}
}

// wantOwnLists checks that each result of call belongs to the caller alone: writing other over it, or over the argument, changes no other result.
func wantOwnLists[E comparable](t *testing.T, what string, list []E, other E, call func(list []E) []E) {
	t.Helper()
	given := withSpare(list, other, other)
	first, second := call(given), call(given)
	want := slices.Clone(second)
	if sharesElements(first, second) || sharesElements(first, given) || sharesElements(second, given) {
		t.Errorf("the results of %s of %v share memory", what, list)
	}
	for _, changed := range [][]E{first, given} {
		for i := range changed[:cap(changed)] {
			changed[:cap(changed)][i] = other
		}
	}
	if !slices.Equal(second, want) || !slices.Equal(call(withSpare(list)), want) {
		t.Errorf("%s of %v is changed to %v", what, list, second)
	}
}
