package tests

import (
	"testing"

	"loop.example/g03113/impl"
)

// permutationFunctions are all functions of chapter 1.
func permutationFunctions() map[string]any {
	return map[string]any{
		"FormatInt": impl.FormatInt, "FormatInts": impl.FormatInts, "ParseInts": impl.ParseInts,
		"IsPerm": impl.IsPerm, "IdentityPerm": impl.IdentityPerm, "LongestPerm": impl.LongestPerm,
		"ComposePerms": impl.ComposePerms, "InversePerm": impl.InversePerm, "LengthOf": impl.LengthOf,
		"DescentsOf": impl.DescentsOf, "CodeOf": impl.CodeOf, "PermOfCode": impl.PermOfCode,
		"EmbedPerm": impl.EmbedPerm, "TrimPerm": impl.TrimPerm, "RankAt": impl.RankAt,
		"IsBelowPerm": impl.IsBelowPerm, "CoversOf": impl.CoversOf, "DiagramOf": impl.DiagramOf,
		"EssentialOf": impl.EssentialOf, "WordPerm": impl.WordPerm, "DemazurePerm": impl.DemazurePerm,
		"ReducedWords": impl.ReducedWords, "CountReduced": impl.CountReduced, "HasPattern": impl.HasPattern,
		"IsVexillary": impl.IsVexillary, "IsGrassmannian": impl.IsGrassmannian,
		"FormatPerm": impl.FormatPerm, "ParsePerm": impl.ParsePerm,
	}
}

func TestPermutationsAlwaysReturn(t *testing.T) {
	for name, fn := range permutationFunctions() {
		checkTotal(t, name, fn)
	}
}

func TestPermutationsArePure(t *testing.T) {
	var calls []call
	for _, n := range []int{0, 1, 4, 7, 8} {
		calls = append(calls, call{"IdentityPerm", impl.IdentityPerm, []any{n}}, call{"LongestPerm", impl.LongestPerm, []any{n}})
	}
	for _, s := range []string{"", "1", "1 2 3", "312", "2143", "7654321", "x"} {
		calls = append(calls, call{"ParseInts", impl.ParseInts, []any{s}}, call{"ParsePerm", impl.ParsePerm, []any{s}})
	}
	for _, w := range [][]int{nil, {}, {0}, {1, 0}, {0, 1, 2}, {2, 0, 1}, {1, 0, 2}, {3, 2, 1, 0}, {1, 0, 3, 2}, {6, 5, 4, 3, 2, 1, 0}, {0, 2, 1, 3, 4, 6, 5}, {0, 0}, {3, 1}} {
		calls = append(calls, callsWithList(w)...)
	}
	for _, c := range calls {
		checkPure(t, c)
	}
}

// callsWithList returns calls with w as a permutation, a code, a word or a list.
func callsWithList(w []int) []call {
	return []call{
		{"FormatInts", impl.FormatInts, []any{w}}, {"IsPerm", impl.IsPerm, []any{w}},
		{"ComposePerms", impl.ComposePerms, []any{w, []int{2, 0, 1}}}, {"ComposePerms", impl.ComposePerms, []any{ascending(len(w)), w}},
		{"InversePerm", impl.InversePerm, []any{w}}, {"LengthOf", impl.LengthOf, []any{w}},
		{"DescentsOf", impl.DescentsOf, []any{w}}, {"CodeOf", impl.CodeOf, []any{w}},
		{"PermOfCode", impl.PermOfCode, []any{w}}, {"PermOfCode", impl.PermOfCode, []any{make([]int, len(w))}},
		{"EmbedPerm", impl.EmbedPerm, []any{w, len(w)}}, {"EmbedPerm", impl.EmbedPerm, []any{w, 7}},
		{"TrimPerm", impl.TrimPerm, []any{w}}, {"RankAt", impl.RankAt, []any{w, 1, 1}},
		{"IsBelowPerm", impl.IsBelowPerm, []any{ascending(len(w)), w}}, {"CoversOf", impl.CoversOf, []any{w}},
		{"DiagramOf", impl.DiagramOf, []any{w}}, {"EssentialOf", impl.EssentialOf, []any{w}},
		{"WordPerm", impl.WordPerm, []any{5, w}}, {"DemazurePerm", impl.DemazurePerm, []any{5, w}},
		{"ReducedWords", impl.ReducedWords, []any{w}}, {"CountReduced", impl.CountReduced, []any{w}},
		{"HasPattern", impl.HasPattern, []any{w, []int{1, 0}}}, {"HasPattern", impl.HasPattern, []any{[]int{2, 0, 1}, w}},
		{"IsVexillary", impl.IsVexillary, []any{w}}, {"IsGrassmannian", impl.IsGrassmannian, []any{w}},
		{"FormatPerm", impl.FormatPerm, []any{w}},
	}
}
