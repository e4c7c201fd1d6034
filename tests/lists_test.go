package tests

import (
	"slices"
	"testing"
	"unsafe"
)

// withSpare returns list in new memory, with the spare elements in the capacity behind it.
func withSpare[E any](list []E, spare ...E) []E {
	longer := append(make([]E, 0, len(list)+len(spare)), list...)
	return append(longer, spare...)[:len(list)]
}

// sharesElements reports whether an element of a, or of the spare capacity behind it, is one of b too.
func sharesElements[A any, B any](a []A, b []B) bool {
	if cap(a) == 0 || cap(b) == 0 {
		return false
	}
	startA, endA := boundsOf(a)
	startB, endB := boundsOf(b)
	return startA < endB && startB < endA
}

// boundsOf returns where the memory of list begins and where it ends, with its spare capacity.
func boundsOf[E any](list []E) (uintptr, uintptr) {
	var element E
	start := uintptr(unsafe.Pointer(unsafe.SliceData(list)))
	return start, start + uintptr(cap(list))*unsafe.Sizeof(element)
}

// onAnyList calls f with list, without and with the spare elements behind it, and checks that f leaves both alone and returns want in new memory.
func onAnyList[E comparable](t *testing.T, what string, list []E, spare []E, want []E, f func(list []E) []E) {
	t.Helper()
	for _, behind := range [][]E{nil, spare} {
		given := withSpare(list, behind...)
		got := f(given)
		if !slices.Equal(got, want) {
			t.Errorf("%s of %v = %v; want %v", what, list, got, want)
		}
		if sharesElements(got, given) {
			t.Errorf("%s of %v shares memory with its argument", what, list)
		}
		wantKept(t, what, given, withSpare(list, behind...))
	}
}

// onTwoLists is onAnyList for a function of two lists, whose result may have other elements.
func onTwoLists[A comparable, R comparable](t *testing.T, what string, one []A, two []A, spare []A, want []R, f func(one []A, two []A) []R) {
	t.Helper()
	for _, behindOne := range [][]A{nil, spare} {
		for _, behindTwo := range [][]A{nil, spare} {
			givenOne, givenTwo := withSpare(one, behindOne...), withSpare(two, behindTwo...)
			got := f(givenOne, givenTwo)
			if !slices.Equal(got, want) {
				t.Errorf("%s of %v and %v = %v; want %v", what, one, two, got, want)
			}
			if sharesElements(got, givenOne) || sharesElements(got, givenTwo) {
				t.Errorf("%s of %v and %v shares memory with an argument", what, one, two)
			}
			wantKept(t, what, givenOne, withSpare(one, behindOne...))
			wantKept(t, what, givenTwo, withSpare(two, behindTwo...))
		}
	}
}

// wantKept checks that given, with its spare capacity, is still as kept.
func wantKept[E comparable](t *testing.T, what string, given []E, kept []E) {
	t.Helper()
	if !slices.Equal(given[:cap(given)], kept[:cap(kept)]) {
		t.Errorf("%s of %v has changed its argument to %v", what, kept, given[:cap(given)])
	}
}

// wantOwnLists checks that each result of call belongs to the caller alone: writing other over it, or over the argument, changes no other result.
func wantOwnLists[E comparable](t *testing.T, what string, list []E, other E, call func(list []E) []E) {
	t.Helper()
	given := withSpare(list, other, other)
	first, second := call(given), call(given)
	want := slices.Clone(second)
	if sharesElements(first, second) || sharesElements(first, given) || sharesElements(second, given) {
		t.Errorf("the results of %s of %v share memory", what, list)
	}
	for _, changed := range [][]E{first, given} {
		for i := range changed[:cap(changed)] {
			changed[:cap(changed)][i] = other
		}
	}
	if !slices.Equal(second, want) || !slices.Equal(call(withSpare(list)), want) {
		t.Errorf("%s of %v is changed to %v", what, list, second)
	}
}
