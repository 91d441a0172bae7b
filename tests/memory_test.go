package tests

import (
	"slices"
	"testing"
)

// roomy gives the same values with spare capacity, and the whole memory to
// look at afterwards.
func roomy[E any](values []E, spare E) ([]E, []E) {
	whole := slices.Clone(values)
	for range 40 {
		whole = append(whole, spare)
	}
	return whole[:len(values):len(whole)], whole
}

// overwrite writes to the result and to all of its spare capacity.
func overwrite[E any](result []E, value E) {
	whole := result[:cap(result)]
	for i := range whole {
		whole[i] = value
	}
}

// checkApart is checkApartOf for arguments that are numbers.
func checkApart[A byte | int, R comparable](t *testing.T, name string, args [][]A, mark R, call func(args [][]A) []R) {
	t.Helper()
	checkApartOf(t, name, args, 77, 99, mark, call)
}

// checkApartOf calls a function with arguments whose spare capacity is full
// of spare. Of each argument, nothing may change in the call or when the
// result is overwritten with mark, and the result may not change when the
// argument is overwritten with other.
func checkApartOf[A, R comparable](t *testing.T, name string, args [][]A, spare A, other A, mark R, call func(args [][]A) []R) {
	t.Helper()
	given, wholes, before := [][]A{}, [][]A{}, [][]A{}
	for _, arg := range args {
		short, whole := roomy(arg, spare)
		given, wholes = append(given, short), append(wholes, whole)
		before = append(before, slices.Clone(whole))
	}
	result := call(given)
	again := call(given)
	kept := slices.Clone(result)
	overwrite(again, mark)
	for i := range wholes {
		if !slices.Equal(wholes[i], before[i]) {
			t.Errorf("%s: argument %d is %v, was %v", name, i, wholes[i], before[i])
		}
		overwrite(wholes[i], other)
	}
	if !slices.Equal(result, kept) {
		t.Errorf("%s: the result is %v, was %v", name, result, kept)
	}
}
