package tests

import (
	"math"
	"testing"

	"loop.example/g03113/impl"
)

// puzzleFunctions are all functions of chapter 5.
func puzzleFunctions() map[string]any {
	return map[string]any{
		"IsString": impl.IsString, "StringOfShape": impl.StringOfShape, "ShapeOfString": impl.ShapeOfString, "PuzzleOk": impl.PuzzleOk, "WeightedOk": impl.WeightedOk, "SidesOf": impl.SidesOf,
		"PuzzlesOf": impl.PuzzlesOf, "WeightedPuzzles": impl.WeightedPuzzles, "CountPuzzles": impl.CountPuzzles, "PuzzleProduct": impl.PuzzleProduct, "RotatePuzzle": impl.RotatePuzzle,
		"MirrorPuzzle": impl.MirrorPuzzle, "PuzzleWeight": impl.PuzzleWeight, "WeightedProduct": impl.WeightedProduct, "FormatPuzzle": impl.FormatPuzzle,
	}
}

func TestPuzzleFunctionsAlwaysReturn(t *testing.T) {
	for name, fn := range puzzleFunctions() {
		checkTotal(t, name, fn)
	}
}

func TestPuzzleFunctionsArePure(t *testing.T) {
	var calls []call
	for _, shape := range [][]int{nil, {}, {1}, {2, 1}, {4, 4, 4}, {1, 2}, {0}} {
		for _, n := range []int{1, 3, 6, 7, 8} {
			calls = append(calls, call{"StringOfShape", impl.StringOfShape, []any{shape, min(n, 3), n}})
		}
	}
	for _, s := range [][]int{nil, {}, {0}, {1}, {0, 1}, {1, 0, 1, 0}, {0, 1, 0, 1, 1}, {0, 0, 0, 1, 1}, {0, 1, 0, 1, 0, 1}, {1, 0, 1, 0, 1, 0, 0}, repeated(0, 7), repeated(1, 8), {2}} {
		calls = append(calls, call{"IsString", impl.IsString, []any{s}}, call{"ShapeOfString", impl.ShapeOfString, []any{s}})
		for _, b := range [][]int{s, reversed(s), {1, 0}} {
			pair := []any{s, b}
			calls = append(calls, call{"PuzzlesOf", impl.PuzzlesOf, pair}, call{"WeightedPuzzles", impl.WeightedPuzzles, pair}, call{"PuzzleProduct", impl.PuzzleProduct, pair})
			calls = append(calls, call{"CountPuzzles", impl.CountPuzzles, []any{s, b, reversed(s)}}, call{"WeightedProduct", impl.WeightedProduct, []any{s, b, ascending(len(s))}})
		}
	}
	puzzles := []impl.Puzzle{{}, puzzle("0/0/0"), puzzle("1 0 1/0 0 1/3 0 1"), puzzle("0 1 0/1 1 0/2 1 0"), puzzle("0 1 1 0 0 2/0 2 1 0 0 0/0 0 1 0 0 1"), puzzle("0 1 0 0 2 0 1 1 1 0/1 1 0 0 0 1 2 1 1 0/2 1 0 0 1 2 0 1 1 0"), puzzle("0/0/1"), puzzle("2/0/1"), {Size: 2, Left: []int{0, 0, 0}}}
	for _, p := range puzzles {
		for name, fn := range map[string]any{"PuzzleOk": impl.PuzzleOk, "WeightedOk": impl.WeightedOk, "SidesOf": impl.SidesOf, "RotatePuzzle": impl.RotatePuzzle, "MirrorPuzzle": impl.MirrorPuzzle, "FormatPuzzle": impl.FormatPuzzle} {
			calls = append(calls, call{name, fn, []any{p}})
		}
		calls = append(calls, call{"PuzzleWeight", impl.PuzzleWeight, []any{p, ascending(max(p.Size, 1))}}, call{"PuzzleWeight", impl.PuzzleWeight, []any{p, []int{10}}})
	}
	for _, c := range calls {
		checkPure(t, c)
	}
}

// hardPuzzles are triangles for which a function might not return.
func hardPuzzles() []any {
	var hard []any
	for _, p := range append(notPuzzles(), puzzle("1 0 1/0 0 1/3 0 1"), puzzle("0/0/0")) {
		hard = append(hard, p)
	}
	for _, size := range []int{1, 7, 8, 447, math.MaxInt, math.MinInt} {
		l := repeated(math.MinInt, 28)
		hard = append(hard, impl.Puzzle{Size: size, Left: l, Right: l, Bottom: l}, impl.Puzzle{Size: size, Left: repeated(1, 100000), Right: repeated(1, 100000), Bottom: repeated(1, 100000)})
	}
	return hard
}
