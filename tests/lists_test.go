package tests

import (
	"fmt"
	"slices"
	"testing"

	"loop.example/g03008/impl"
)

// guarded holds a slice argument with other elements before it and spare
// capacity behind it, and remembers what all of that memory was.
type guarded[E comparable] struct {
	list   []E
	whole  []E
	before []E
}

func guard[E comparable](list ...E) guarded[E] {
	const around = 16
	whole := make([]E, around+len(list)+around)
	for i := range whole {
		whole[i] = strange[E](i)
	}
	copy(whole[around:], list)
	return guarded[E]{
		list:   whole[around : around+len(list)],
		whole:  whole,
		before: slices.Clone(whole),
	}
}

func (g guarded[E]) check(t *testing.T, name string) {
	t.Helper()
	if !slices.Equal(g.whole, g.before) {
		t.Errorf("%s: the memory of an argument was %v and is %v", name, g.before, g.whole)
	}
}

// strange returns an element that the lists of the tests hardly have, and that
// differs from the ones beside it.
func strange[E comparable](i int) E {
	var element E
	switch e := any(&element).(type) {
	case *int:
		*e = 100 + i
	case *byte:
		*e = byte(100 + i)
	case *bool:
		*e = i%2 == 0
	case *impl.Member:
		*e = impl.Member{Id: 100 + i, Strength: 200 + i, Need: 300 + i, Ill: i%2 == 0}
	case *impl.Depot:
		*e = impl.Depot{Cell: 100 + i, Food: 200 + i}
	case *impl.Vote:
		*e = impl.Vote{Who: 100 + i, Choice: 200 + i}
	case *impl.Page:
		*e = impl.Page{Day: 100 + i, Cell: 200 + i, Food: 300 + i, Seal: 400 + i}
	case *impl.Sample:
		*e = impl.Sample{Id: 100 + i, Weight: 200 + i, Worth: 300 + i}
	case *impl.Leg:
		*e = impl.Leg{To: 100 + i, Stay: 200 + i}
	case *impl.Event:
		*e = impl.Event{Kind: 100 + i, N: 200 + i, Storm: i%2 == 0}
	case *impl.Stock:
		*e = impl.Stock{Thing: 100 + i, Count: 300 + i, Out: 200 + i}
	default:
		panic("there are no such elements")
	}
	return element
}

// scribble writes over all that can be reached from a result.
func scribble[E comparable](result []E) {
	all := result[:cap(result)]
	for i, element := range all {
		all[i] = strange[E](i)
		if all[i] == element {
			all[i] = strange[E](i + 1)
		}
	}
}

// brief is a text for a value that may be very long.
func brief(value any) string {
	text := fmt.Sprint(value)
	if len(text) > 600 {
		return text[:600] + " ..."
	}
	return text
}

// checkOwnMemory calls a function twice: what is written into the first result
// must show neither in the second one nor in the argument.
func checkOwnMemory[E, R comparable](t *testing.T, name string, argument guarded[E], call func() []R) {
	t.Helper()
	first := call()
	argument.check(t, name)
	want := slices.Clone(first)
	second := call()
	scribble(first)
	argument.check(t, name+", its result written")
	if !slices.Equal(second, want) {
		t.Errorf("%s: two results share memory", name)
	}
}

// checkEquality takes different lists, none of them empty.
func checkEquality[E comparable](t *testing.T, name string, equal func(a []E, b []E) bool, different ...[]E) {
	t.Helper()
	lists := append([][]E{nil}, different...)
	for i, a := range lists {
		for k, b := range lists {
			if got := equal(a, slices.Clone(b)); got != (i == k) {
				t.Errorf("%s(%v, %v) is %v", name, a, b, got)
			}
		}
	}
	if !equal(nil, []E{}) || !equal([]E{}, nil) || !equal([]E{}, []E{}) {
		t.Errorf("%s: nil and empty lists are not equal", name)
	}
}

// listsOf are all lists of so many elements, each one of some numbers.
func listsOf(count int, numbers ...int) [][]int {
	lists := [][]int{{}}
	for range count {
		longer := [][]int{}
		for _, l := range lists {
			for _, n := range numbers {
				longer = append(longer, append(slices.Clone(l), n))
			}
		}
		lists = longer
	}
	return lists
}
