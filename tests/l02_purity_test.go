package tests

import (
	"testing"

	"loop.example/g03113/impl"
)

// polynomialFunctions are all functions of chapter 2.
func polynomialFunctions() map[string]any {
	return map[string]any{
		"PolyOk": impl.PolyOk, "ConstantPoly": impl.ConstantPoly, "MonomialPoly": impl.MonomialPoly,
		"AddPolys": impl.AddPolys, "MulPolys": impl.MulPolys, "SwapVariables": impl.SwapVariables,
		"DividedDifference": impl.DividedDifference, "DemazureOf": impl.DemazureOf, "AtomOf": impl.AtomOf,
		"IsobaricOf": impl.IsobaricOf, "DegreeOf": impl.DegreeOf, "PartOfDegree": impl.PartOfDegree,
		"CoefficientOf": impl.CoefficientOf, "IsSymmetricAt": impl.IsSymmetricAt, "EvaluatePoly": impl.EvaluatePoly,
		"FormatPoly": impl.FormatPoly, "ParsePoly": impl.ParsePoly,
	}
}

func TestPolynomialsAlwaysReturn(t *testing.T) {
	for name, fn := range polynomialFunctions() {
		checkTotal(t, name, fn)
	}
}

func TestPolynomialsArePure(t *testing.T) {
	var calls []call
	for _, k := range []int{0, 5, -1000000, 1000001} {
		calls = append(calls, call{"ConstantPoly", impl.ConstantPoly, []any{k}})
	}
	for _, exp := range [][]int{nil, {}, {1, 2}, {24, 24, 24, 24, 24, 24, 24}, {25}, make([]int, 8)} {
		calls = append(calls, call{"MonomialPoly", impl.MonomialPoly, []any{exp}})
	}
	for _, s := range []string{"", "0", "1:", "1:0 1, 1:1", "2:0 0 0 1, -3:5 2, 1:", "1:1, 1:"} {
		calls = append(calls, call{"ParsePoly", impl.ParsePoly, []any{s}})
	}
	polys := append(somePolys(), manyTerms(60, 0, 1, 1), poly("1:24 24"), poly("1000000:0 1, 1000000:1"))
	for _, f := range append(polys, notPolys()[:12]...) {
		calls = append(calls, callsWithPoly(f)...)
	}
	for _, c := range calls {
		checkPure(t, c)
	}
}

// callsWithPoly returns calls with f as a polynomial.
func callsWithPoly(f []impl.Term) []call {
	g := poly("1:0 0 1, -2:0 1, 3:2, 1:")
	calls := []call{
		{"PolyOk", impl.PolyOk, []any{f}}, {"AddPolys", impl.AddPolys, []any{f, 2, g}},
		{"AddPolys", impl.AddPolys, []any{g, -1, f}}, {"AddPolys", impl.AddPolys, []any{f, 0, nilPoly()}},
		{"AddPolys", impl.AddPolys, []any{nilPoly(), 1, f}}, {"AddPolys", impl.AddPolys, []any{f, 1001, g}},
		{"MulPolys", impl.MulPolys, []any{f, g}}, {"MulPolys", impl.MulPolys, []any{poly("1:"), f}},
		{"DegreeOf", impl.DegreeOf, []any{f}}, {"PartOfDegree", impl.PartOfDegree, []any{f, 1}},
		{"PartOfDegree", impl.PartOfDegree, []any{f, 2}}, {"CoefficientOf", impl.CoefficientOf, []any{f, []int{1, 0, 0, 0, 0, 0, 0}}},
		{"EvaluatePoly", impl.EvaluatePoly, []any{f, []int{2, -3, 5, 0, 1, 9, 8}}}, {"FormatPoly", impl.FormatPoly, []any{f}},
	}
	for _, i := range []int{0, 5, 6} {
		calls = append(calls, call{"SwapVariables", impl.SwapVariables, []any{f, i}}, call{"IsSymmetricAt", impl.IsSymmetricAt, []any{f, i}})
		for _, o := range operators() {
			calls = append(calls, call{o.name, o.fn, []any{f, i}})
		}
	}
	return calls
}

func nilPoly() []impl.Term { return nil }

// hardPolys are polynomials and other lists of terms for which a function might
// not return.
func hardPolys() []any {
	hard := []any{
		nilPoly(), poly("1:"), poly("1:0 0 0 0 0 1, -1:0 2"), impl.MonomialPoly(repeated(24, 7)), poly("1000000:24, -1000000:"), manyTerms(600, 0, 1, 1000000),
	}
	for _, f := range notPolys() {
		hard = append(hard, f)
	}
	return hard
}
