package tests

// intField is a number of a struct.
type intField[S any] struct {
	name string
	of   func(s *S) *int
}

// set returns s with the number n in the field.
func (f intField[S]) set(s S, n int) S {
	*f.of(&s) = n
	return s
}
