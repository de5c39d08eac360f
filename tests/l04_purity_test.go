package tests

import (
	"testing"

	"loop.example/g03113/impl"
)

// tableauxFunctions are all functions of chapter 4.
func tableauxFunctions() map[string]any {
	return map[string]any{
		"IsShape": impl.IsShape, "ConjugateShape": impl.ConjugateShape, "ContainsShape": impl.ContainsShape, "ShapesIn": impl.ShapesIn,
		"TableauOk": impl.TableauOk, "TableauxOf": impl.TableauxOf, "SchurPoly": impl.SchurPoly, "StandardCount": impl.StandardCount,
		"InsertNumber": impl.InsertNumber, "RskOf": impl.RskOf, "EdelmanGreene": impl.EdelmanGreene, "ShapeProduct": impl.ShapeProduct,
		"LrCount": impl.LrCount, "PartsOk": impl.PartsOk, "FormatParts": impl.FormatParts, "GrassmannianPerm": impl.GrassmannianPerm,
		"ShapeOfPerm": impl.ShapeOfPerm, "StanleyShapes": impl.StanleyShapes,
	}
}

func TestTableauxAlwaysReturn(t *testing.T) {
	for name, fn := range tableauxFunctions() {
		checkTotal(t, name, fn)
	}
}

func TestTableauxArePure(t *testing.T) {
	var calls []call
	for _, shape := range [][]int{nil, {}, {1}, {2, 1}, {3, 3, 1}, {1, 1, 1}, {8}, repeated(1, 16), repeated(16, 16), {1, 2}, {0}, repeated(1, 17)} {
		calls = append(calls, callsWithShape(shape)...)
	}
	for _, sides := range [][]any{{0, 0}, {2, 2}, {6, 1}, {3, 6}, {7, 1}} {
		calls = append(calls, call{"ShapesIn", impl.ShapesIn, sides})
	}
	for _, tableau := range [][][]int{nil, {}, rows("0"), rows("0 1, 1"), rows("0 1 1 3, 2 2, 4"), {repeated(4, 16)}, rows("1, 0"), {{}}, {nil, nil}} {
		calls = append(calls, call{"TableauOk", impl.TableauOk, []any{tableau}})
		for _, x := range []int{0, 2, 4, 20, 21} {
			calls = append(calls, call{"InsertNumber", impl.InsertNumber, []any{tableau, x}})
		}
	}
	for _, word := range [][]int{nil, {}, {0}, {0, 1}, {1, 0, 2}, {0, 1, 0}, {1, 0, 1, 2, 1, 0}, {0, 0}, longestWord(5), longestWord(7), {5, 4, 3}, repeated(20, 16), repeated(0, 17), {21}} {
		calls = append(calls, call{"RskOf", impl.RskOf, []any{word}}, call{"EdelmanGreene", impl.EdelmanGreene, []any{7, word}}, call{"EdelmanGreene", impl.EdelmanGreene, []any{4, word}})
	}
	for _, l := range [][]impl.Part{nil, {}, parts("1:"), parts("2:1 1, -3:2"), parts("1:2, 1:1"), {{Shape: repeated(1, 17), Count: 1}}} {
		calls = append(calls, call{"PartsOk", impl.PartsOk, []any{l}}, call{"FormatParts", impl.FormatParts, []any{l}})
	}
	for _, w := range [][]int{nil, {}, {0}, {1, 0}, {0, 2, 1}, {2, 1, 0}, {1, 0, 3, 2}, {1, 3, 0, 2}, {1, 0, 3, 2, 5, 4}, {4, 3, 2, 1, 0}, impl.LongestPerm(7), ascending(7), {6, 0, 1, 2, 3, 4, 5}, {0, 0}} {
		calls = append(calls, call{"ShapeOfPerm", impl.ShapeOfPerm, []any{w}}, call{"StanleyShapes", impl.StanleyShapes, []any{w}})
	}
	for _, c := range calls {
		checkPure(t, c)
	}
}

// callsWithShape returns calls with a list as a shape.
func callsWithShape(shape []int) []call {
	calls := []call{{"IsShape", impl.IsShape, []any{shape}}, {"ConjugateShape", impl.ConjugateShape, []any{shape}}, {"StandardCount", impl.StandardCount, []any{shape}}}
	for _, n := range []int{0, 2, 3, 7, 8} {
		calls = append(calls, call{"TableauxOf", impl.TableauxOf, []any{shape, n}}, call{"SchurPoly", impl.SchurPoly, []any{shape, n}})
		calls = append(calls, call{"GrassmannianPerm", impl.GrassmannianPerm, []any{shape, min(n, 3), n}})
	}
	for _, other := range [][]int{nil, {1}, {2, 1}, {4, 2, 1, 1}, {2, 2, 2, 2}, {9}} {
		calls = append(calls, call{"ContainsShape", impl.ContainsShape, []any{shape, other}}, call{"ShapeProduct", impl.ShapeProduct, []any{shape, other}}, call{"ShapeProduct", impl.ShapeProduct, []any{other, shape}})
		calls = append(calls, call{"LrCount", impl.LrCount, []any{shape, other, []int{3, 2, 1}}}, call{"LrCount", impl.LrCount, []any{other, []int{1}, shape}})
	}
	return calls
}

// hardRows are tableaux and other lists of rows for which a function might not
// return.
func hardRows() []any {
	hard := []any{[][]int(nil), [][]int{}, rows("0 1, 1"), [][]int{repeated(0, 16)}, [][]int{ascending(100000), ascending(100000)}}
	for _, t := range notTableaux() {
		hard = append(hard, t)
	}
	return hard
}

// hardParts are lists of parts for which a function might not return.
func hardParts() []any {
	hard := []any{[]impl.Part(nil), []impl.Part{}, parts("1:1, 1:2")}
	for _, l := range notParts() {
		hard = append(hard, l)
	}
	return hard
}
