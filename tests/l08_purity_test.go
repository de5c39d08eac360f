package tests

import (
	"math"
	"testing"

	"loop.example/g03113/impl"
)

// localFunctions are all functions of chapter 8. EquivariantShapes has too many
// arguments for all choices: at one of three places there is a list that may be right.
func localFunctions() map[string]any {
	return map[string]any{
		"AllPerms": impl.AllPerms, "Localize": impl.Localize, "LocalTable": impl.LocalTable, "IsGkm": impl.IsGkm, "ExpandLocal": impl.ExpandLocal, "EquivariantProduct": impl.EquivariantProduct,
		"EquivariantShapes of two shapes": func(a []int, b []int, k int, n int) ([]impl.Part, bool) {
			return impl.EquivariantShapes(a, b, k, n, []int{2, 0, 1})
		},
		"EquivariantShapes of a first shape": func(a []int, k int, n int, y []int) ([]impl.Part, bool) {
			return impl.EquivariantShapes(a, nil, k, n, y)
		},
		"EquivariantShapes of a second shape": func(b []int, k int, n int, y []int) ([]impl.Part, bool) {
			return impl.EquivariantShapes(nil, b, k, n, y)
		},
	}
}

func TestLocalFunctionsAlwaysReturn(t *testing.T) {
	for name, fn := range localFunctions() {
		checkTotal(t, name, fn)
	}
}

// hardShifts are lists of numbers for permutations of n: right ones, and such that are
// equal, too far or too many.
func hardShifts(n int) [][]int {
	return [][]int{nil, repeated(0, n), repeated(math.MinInt, n), repeated(3, n+1), numbers("9 -9 4 0 1 2 3")[:n], ascending(n)}
}

func TestLocalFunctionsArePure(t *testing.T) {
	var calls []call
	for _, n := range []int{0, 1, 2, 3, 4, 5, 6, -1, math.MaxInt, math.MinInt} {
		calls = append(calls, call{"AllPerms", impl.AllPerms, []any{n}})
		for places := range 5 {
			for _, y := range hardShifts(places) {
				for _, values := range [][]int{nil, {7}, {1, 4}, repeated(0, 6), {0, 0, 0, 0, 0, 4}, ascending(24), repeated(5, 24), repeated(math.MinInt, 24), repeated(math.MaxInt, 6)} {
					calls = append(calls, call{"IsGkm", impl.IsGkm, []any{n, values, y}}, call{"ExpandLocal", impl.ExpandLocal, []any{n, values, y}})
				}
			}
		}
	}
	for _, v := range append(permsUpTo(3), nil, []int{1, 1}, perm("2143"), perm("4321"), perm("1243"), perm("54321"), perm("21345"), perm("654321")) {
		for _, y := range append(hardShifts(len(v)), repeated(1, 7)) {
			calls = append(calls, call{"LocalTable", impl.LocalTable, []any{v, y}})
			for _, w := range [][]int{v, reversed(v), ascending(len(v)), {1, 0}} {
				calls = append(calls, call{"Localize", impl.Localize, []any{v, w, y}}, call{"EquivariantProduct", impl.EquivariantProduct, []any{v, w, y}})
			}
		}
	}
	for _, b := range append(boxesUpTo(5), box{5, 4}, box{0, 0}) {
		for _, y := range hardShifts(b.n) {
			for _, shape := range [][]int{nil, {1}, {2, 1}, {2, 2}, {1, 1, 1}, {4}, {1, 2}, {0}} {
				calls = append(calls, call{"EquivariantShapes", impl.EquivariantShapes, []any{shape, []int{1}, b.k, b.n, y}}, call{"EquivariantShapes", impl.EquivariantShapes, []any{shape, shape, b.k, b.n, y}})
			}
		}
	}
	for _, c := range calls {
		checkPure(t, c)
	}
}

// TestLocalFunctionsTakeOneListTwice gives the same memory at several places.
func TestLocalFunctionsTakeOneListTwice(t *testing.T) {
	l := []int{2, 0, 3, 1}
	value, ok := impl.Localize(l, l, l)
	is(t, "Localize of one list", text(value, ok), text(valueOver(l, l), true))
	is(t, "EquivariantProduct of one list", text(impl.EquivariantProduct(l, l, l)), text(impl.EquivariantProduct([]int{2, 0, 3, 1}, []int{2, 0, 3, 1}, []int{2, 0, 3, 1})))
	is(t, "the list", text(l), "[2 0 3 1]")
	y := []int{1, 0}
	is(t, "ExpandLocal of one list", text(impl.ExpandLocal(2, y, y)), text([]impl.Class{{Perm: []int{0}, Count: 1}, {Perm: []int{1, 0}, Count: 1}}, true))
	is(t, "LocalTable of one list", text(impl.LocalTable(y, y)), "[0 -1] true")
	is(t, "EquivariantShapes of one list", text(impl.EquivariantShapes(y[:1], y[:1], 1, 2, y)), text([]impl.Part{{Shape: []int{1}, Count: -1}}, true))
	is(t, "the list", text(y), "[1 0]")
}
