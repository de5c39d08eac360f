package tests

import (
	"math"
	"testing"

	"loop.example/g03113/impl"
)

// schubertFunctions are all functions of chapter 3.
func schubertFunctions() map[string]any {
	return map[string]any{
		"SchubertPoly": impl.SchubertPoly, "DoubleSchubert": impl.DoubleSchubert, "GrothendieckPoly": impl.GrothendieckPoly,
		"KeyPoly": impl.KeyPoly, "DreamWord": impl.DreamWord, "DreamPerm": impl.DreamPerm, "BottomDream": impl.BottomDream,
		"PipeDreams": impl.PipeDreams, "LadderMoves": impl.LadderMoves, "ClassesOk": impl.ClassesOk, "MonkProduct": impl.MonkProduct,
		"TransitionOf": impl.TransitionOf, "ClassesPoly": impl.ClassesPoly, "ExpandPoly": impl.ExpandPoly, "MulPerms": impl.MulPerms,
		"FormatClasses": impl.FormatClasses,
	}
}

func TestSchubertAlwaysReturns(t *testing.T) {
	for name, fn := range schubertFunctions() {
		checkTotal(t, name, fn)
	}
}

func TestSchubertIsPure(t *testing.T) {
	var calls []call
	for _, w := range [][]int{nil, {}, {0}, {0, 1}, {1, 0}, {0, 2, 1}, {2, 1, 0}, {0, 3, 2, 1}, {1, 0, 3, 2, 4}, {0, 2, 4, 1, 3}, {4, 3, 2, 1, 0}, {0, 4, 2, 3, 1, 5}, {0, 2, 1, 6, 5, 4, 3}, impl.LongestPerm(7), ascending(7), {0, 0}, ascending(8)} {
		calls = append(calls, callsWithPerm(w)...)
	}
	for _, exp := range [][]int{nil, {3}, {0, 1}, {2, 0, 1}, {0, 1, 2, 3, 4}, {4, 4, 0, 0, 0}, {5}, make([]int, 6)} {
		calls = append(calls, call{"KeyPoly", impl.KeyPoly, []any{exp}})
	}
	for _, dream := range []notDream{{1, nil}, {3, []impl.Cell{}}, {3, cells("10")}, {4, cells("10 11 20")}, {4, cells("01 10")}, {6, cells("10 11 20 21 30")}, {6, staircase(6)}, {3, cells("10 01")}, {7, nil}} {
		args := []any{dream.n, dream.crosses}
		calls = append(calls, call{"DreamWord", impl.DreamWord, args}, call{"DreamPerm", impl.DreamPerm, args}, call{"LadderMoves", impl.LadderMoves, args})
	}
	for _, l := range append(someSums()[:12], notClasses()[:12]...) {
		calls = append(calls, call{"ClassesOk", impl.ClassesOk, []any{l}}, call{"ClassesPoly", impl.ClassesPoly, []any{l}}, call{"FormatClasses", impl.FormatClasses, []any{l}})
	}
	for _, f := range append(somePolys(), poly("1:0 1"), poly("1:0 0 0 0 0 1"), poly("3:0 0 2 2, 5:1 0 2")) {
		calls = append(calls, call{"ExpandPoly", impl.ExpandPoly, []any{f}})
	}
	for _, f := range notPolys()[:12] {
		calls = append(calls, call{"ExpandPoly", impl.ExpandPoly, []any{f}})
	}
	for _, c := range calls {
		checkPure(t, c)
	}
}

// callsWithPerm returns calls with w as a permutation.
func callsWithPerm(w []int) []call {
	calls := []call{
		{"SchubertPoly", impl.SchubertPoly, []any{w}}, {"GrothendieckPoly", impl.GrothendieckPoly, []any{w}}, {"BottomDream", impl.BottomDream, []any{w}},
		{"PipeDreams", impl.PipeDreams, []any{w}}, {"TransitionOf", impl.TransitionOf, []any{w}}, {"MulPerms", impl.MulPerms, []any{w, []int{0, 2, 1}}},
		{"MulPerms", impl.MulPerms, []any{[]int{0}, w}}, {"MulPerms", impl.MulPerms, []any{w, w}}, {"DoubleSchubert", impl.DoubleSchubert, []any{w, make([]int, len(w))}},
		{"DoubleSchubert", impl.DoubleSchubert, []any{w, ascending(len(w))}}, {"DoubleSchubert", impl.DoubleSchubert, []any{w, []int{10}}},
	}
	for _, k := range []int{0, len(w) - 1, len(w)} {
		calls = append(calls, call{"MonkProduct", impl.MonkProduct, []any{w, k}})
	}
	return calls
}

// hardCells are dreams and other lists of cells for which a function might not
// return.
func hardCells() []any {
	hard := []any{[]impl.Cell(nil), []impl.Cell{}, cells("00"), cells("10 11 20"), staircase(4), staircase(6), staircase(7), staircase(8)}
	for _, none := range notDreams() {
		hard = append(hard, none.crosses)
	}
	return hard
}

// hardSums are sums of classes and other lists of classes for which a function
// might not return.
func hardSums() []any {
	var hard []any
	for _, l := range append(someSums(), notClasses()...) {
		hard = append(hard, l)
	}
	extreme := []impl.Class{{Perm: repeated(0, 100000), Count: math.MaxInt}, {Perm: []int{math.MinInt}, Count: math.MinInt}}
	return append(hard, extreme)
}
