package tests

import (
	"math"
	"testing"

	"loop.example/g03113/impl"
)

// flagFunctions are all functions of chapter 7.
func flagFunctions() map[string]any {
	return map[string]any{
		"MatrixOk": impl.MatrixOk, "PermMatrix": impl.PermMatrix, "MulMatrices": impl.MulMatrices, "RankOf": impl.RankOf, "CornerRank": impl.CornerRank, "SpanOf": impl.SpanOf, "IsSpace": impl.IsSpace, "SumSpaces": impl.SumSpaces,
		"MeetSpaces": impl.MeetSpaces, "SpaceString": impl.SpaceString, "SpacesWith": impl.SpacesWith, "CountSpaces": impl.CountSpaces, "FlagOk": impl.FlagOk, "NormalFlag": impl.NormalFlag, "FlagPerm": impl.FlagPerm,
		"FlagsWith": impl.FlagsWith, "RelativePosition": impl.RelativePosition, "PositionOf": impl.PositionOf, "MeetsFlag": impl.MeetsFlag, "KeepsRanks": impl.KeepsRanks, "KeepsEssential": impl.KeepsEssential,
	}
}

func TestFlagFunctionsAlwaysReturn(t *testing.T) {
	for name, fn := range flagFunctions() {
		checkTotal(t, name, fn)
	}
}

func TestFlagFunctionsArePure(t *testing.T) {
	var calls []call
	for _, p := range []int{2, 3, 5, 7, 4} {
		for _, w := range [][]int{nil, {}, {0}, {1, 0}, {0, 1}, {2, 0, 1}, {2, 1, 0}, {0, 1, 2}, {6, 5, 4, 3, 2, 1, 0}, {1, 1}, {0, 1, 1}, {1, 0, 1, 0}, repeated(0, 7), repeated(1, 8)} {
			calls = append(calls, call{"PermMatrix", impl.PermMatrix, []any{p, w}}, call{"SpacesWith", impl.SpacesWith, []any{p, w}}, call{"FlagsWith", impl.FlagsWith, []any{p, w}})
		}
	}
	matrices := []impl.Matrix{{}, noRows(2, 3), noRows(3, 1), matrix(2, "1"), matrix(3, "0 1"), matrix(3, "2 1, 1 1"), matrix(3, "1 2, 0 1"), matrix(2, "1 0 1, 0 1 1"), matrix(2, "0 1 1, 1 1 1, 0 0 1"), matrix(2, "1 1 1, 1 1 1"), matrix(5, "1 0, 0 1"), matrix(7, "0 6 3, 2 1 4, 5 5 5"), onesAt(2, 3, ascending(3)), zeros(7, 7, 7), onesAt(7, 7, reversed(ascending(7))), zeros(2, 3, 7), zeros(4, 2, 2), {P: 2, Rows: 2, Cols: 2, Data: []int{1, 2, 0, 1}}}
	for _, a := range matrices {
		calls = append(calls, callsWithMatrix(a)...)
		for _, b := range matrices {
			pair := []any{a, b}
			calls = append(calls, call{"MulMatrices", impl.MulMatrices, pair}, call{"SumSpaces", impl.SumSpaces, pair}, call{"MeetSpaces", impl.MeetSpaces, pair}, call{"RelativePosition", impl.RelativePosition, pair}, call{"PositionOf", impl.PositionOf, pair})
			for _, shape := range [][]int{nil, {1}, {1, 1}, {2, 1}, {0}} {
				calls = append(calls, call{"MeetsFlag", impl.MeetsFlag, []any{a, b, shape}})
			}
		}
	}
	for _, c := range calls {
		checkPure(t, c)
	}
}

func callsWithMatrix(m impl.Matrix) []call {
	calls := []call{{"CornerRank", impl.CornerRank, []any{m, m.Rows, m.Cols}}, {"CornerRank", impl.CornerRank, []any{m, 1, 1}}}
	for name, fn := range map[string]any{"MatrixOk": impl.MatrixOk, "RankOf": impl.RankOf, "SpanOf": impl.SpanOf, "IsSpace": impl.IsSpace, "SpaceString": impl.SpaceString, "FlagOk": impl.FlagOk, "NormalFlag": impl.NormalFlag, "FlagPerm": impl.FlagPerm} {
		calls = append(calls, call{name, fn, []any{m}})
	}
	for _, w := range [][]int{nil, {0}, {1, 0}, {0, 2, 1}, {1, 1}, ascending(7)} {
		calls = append(calls, call{"KeepsRanks", impl.KeepsRanks, []any{m, w}}, call{"KeepsEssential", impl.KeepsEssential, []any{m, w}})
	}
	return calls
}

// hardMatrices are matrices for which a function might not return.
func hardMatrices() []any {
	hard := []any{impl.Matrix{}, noRows(2, 1), noRows(7, 7), matrix(2, "1"), matrix(3, "1 2, 2 1"), matrix(7, "6 6, 0 6"), matrix(5, "1 0 4"), zeros(7, 7, 7), onesAt(7, 7, reversed(ascending(7))), onesAt(2, 7, ascending(7)), zeros(3, 8, 8)}
	for _, size := range []int{1, 7, 8, 316, 1 << 16, 1 << 32, math.MaxInt, math.MinInt, -1} {
		for _, data := range [][]int{nil, {math.MinInt}, {math.MaxInt}, repeated(math.MinInt, 49), repeated(1, 49), repeated(1, 100000)} {
			hard = append(hard, impl.Matrix{P: 7, Rows: size, Cols: size, Data: data}, impl.Matrix{P: size, Rows: 7, Cols: 7, Data: data})
		}
	}
	return hard
}
