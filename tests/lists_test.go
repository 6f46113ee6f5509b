package tests

import (
	"slices"
	"testing"
)

// guarded holds a slice argument with other elements before it and spare
// capacity behind it, and remembers what all of that memory was.
type guarded[E ~int | ~byte] struct {
	list   []E
	whole  []E
	before []E
}

func guard[E ~int | ~byte](list ...E) guarded[E] {
	const around = 16
	whole := make([]E, around+len(list)+around)
	for i := range whole {
		whole[i] = E(100 + i)
	}
	copy(whole[around:], list)
	return guarded[E]{
		list:   whole[around : around+len(list)],
		whole:  whole,
		before: slices.Clone(whole),
	}
}

func (g guarded[E]) check(t *testing.T, name string) {
	t.Helper()
	if !slices.Equal(g.whole, g.before) {
		t.Errorf("%s: the memory of an argument was %v and is %v", name, g.before, g.whole)
	}
}

// scribble writes over all that can be reached from a result.
func scribble[E ~int | ~byte](result []E) {
	all := result[:cap(result)]
	for i := range all {
		all[i] = ^all[i]
	}
}

// checkOwnMemory calls a function twice: what is written into the first result
// must show neither in the second one nor in the argument.
func checkOwnMemory[E, R ~int | ~byte](t *testing.T, name string, argument guarded[E], call func() []R) {
	t.Helper()
	first := call()
	argument.check(t, name)
	want := slices.Clone(first)
	second := call()
	scribble(first)
	argument.check(t, name+", its result written")
	if !slices.Equal(second, want) {
		t.Errorf("%s: two results share memory", name)
	}
}

// checkEquality takes different lists, none of them empty.
func checkEquality[E comparable](t *testing.T, name string, equal func(a []E, b []E) bool, different ...[]E) {
	t.Helper()
	lists := append([][]E{nil}, different...)
	for i, a := range lists {
		for k, b := range lists {
			if got := equal(a, slices.Clone(b)); got != (i == k) {
				t.Errorf("%s(%v, %v) is %v", name, a, b, got)
			}
		}
	}
	if !equal(nil, []E{}) || !equal([]E{}, nil) || !equal([]E{}, []E{}) {
		t.Errorf("%s: nil and empty lists are not equal", name)
	}
}
