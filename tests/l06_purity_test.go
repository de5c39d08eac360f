package tests

import (
	"math"
	"testing"

	"loop.example/g03113/impl"
)

// grassmannianFunctions are all functions of chapter 6. GromovWitten has too many
// arguments for all choices: the same list stands at two of three places.
func grassmannianFunctions() map[string]any {
	return map[string]any{
		"IsInBox": impl.IsInBox, "DualShape": impl.DualShape, "GaussCounts": impl.GaussCounts, "GrProduct": impl.GrProduct, "PieriShapes": impl.PieriShapes, "IntersectionNumber": impl.IntersectionNumber,
		"DegreeOfGr": impl.DegreeOfGr, "WrapShape": impl.WrapShape, "QuantumProduct": impl.QuantumProduct, "QuantumPieri": impl.QuantumPieri, "RotateString": impl.RotateString, "FormatQParts": impl.FormatQParts,
		"GromovWitten of a third shape": func(a []int, k int, n int, d int) int { return impl.GromovWitten([]int{1}, nil, a, k, n, d) },
		"GromovWitten of two shapes":    func(a []int, k int, n int, d int) int { return impl.GromovWitten(a, a, []int{1}, k, n, d) },
	}
}

func TestGrassmanniansAlwaysReturn(t *testing.T) {
	for name, fn := range grassmannianFunctions() {
		checkTotal(t, name, fn)
	}
}

func TestGrassmanniansArePure(t *testing.T) {
	var calls []call
	boxes := []box{{2, 4}, {3, 7}, {0, 3}, {3, 3}, {1, 1}, {4, 8}, {5, 4}}
	for _, b := range boxes {
		calls = append(calls, call{"GaussCounts", impl.GaussCounts, []any{b.k, b.n}}, call{"DegreeOfGr", impl.DegreeOfGr, []any{b.k, b.n}})
		for _, shape := range [][]int{nil, {}, {1}, {2, 1}, {2, 2}, {4, 4, 4}, {4, 2, 1}, {7, 3}, {1, 2}, {0}, repeated(1, 17)} {
			calls = append(calls, b.callsWithShape(shape)...)
		}
	}
	for _, s := range [][]int{nil, {}, {0}, {1}, {0, 1}, {1, 0, 1, 0}, {1, 0, 1, 0, 1, 0, 0}, repeated(1, 8), {2}} {
		calls = append(calls, call{"RotateString", impl.RotateString, []any{s}})
	}
	for _, l := range hardQParts() {
		calls = append(calls, call{"FormatQParts", impl.FormatQParts, []any{l}})
	}
	for _, c := range calls {
		checkPure(t, c)
	}
}

// callsWithShape returns calls with a list as a shape in the box.
func (b box) callsWithShape(shape []int) []call {
	calls := []call{{"IsInBox", impl.IsInBox, []any{shape, b.k, b.n}}, {"DualShape", impl.DualShape, []any{shape, b.k, b.n}}, {"WrapShape", impl.WrapShape, []any{shape, b.k, b.n}}}
	for _, p := range []int{0, 1, 2, 4, -1} {
		calls = append(calls, call{"PieriShapes", impl.PieriShapes, []any{shape, b.k, b.n, p}}, call{"QuantumPieri", impl.QuantumPieri, []any{shape, b.k, b.n, p}})
	}
	for _, other := range [][]int{nil, {1}, {2, 1}, {4, 3}, shape} {
		pair := []any{shape, other, b.k, b.n}
		calls = append(calls, call{"GrProduct", impl.GrProduct, pair}, call{"QuantumProduct", impl.QuantumProduct, pair}, call{"QuantumProduct", impl.QuantumProduct, []any{other, shape, b.k, b.n}})
		calls = append(calls, call{"GromovWitten", impl.GromovWitten, []any{shape, other, b.full(), b.k, b.n, 1}}, call{"IntersectionNumber", impl.IntersectionNumber, []any{[][]int{shape, other, shape}, b.k, b.n}})
	}
	return calls
}

// hardQParts are lists of parts for which a function might not return.
func hardQParts() []any {
	hard := []any{[]impl.QPart(nil), []impl.QPart{}, qparts("1:q0:2 2, 1:q1:"), []impl.QPart{{Power: math.MinInt, Shape: repeated(math.MinInt, 1000), Count: math.MinInt}}, make([]impl.QPart, 100000)}
	for _, l := range hardLists() {
		hard = append(hard, []impl.QPart{{Power: 1, Shape: l.([]int), Count: 1}, {Power: -1, Shape: l.([]int), Count: math.MaxInt}})
	}
	return hard
}
