package tests

import (
	"fmt"
	"math"
	"math/big"
	"slices"
	"strings"
	"testing"

	"loop.example/g03113/impl"
)

// valueOf computes with numbers of any size.
func valueOf(f []impl.Term, values []int) int {
	sum := new(big.Int)
	for _, term := range f {
		product := big.NewInt(int64(term.Coef))
		for i, exp := range term.Exp {
			product.Mul(product, new(big.Int).Exp(big.NewInt(int64(values[i])), big.NewInt(int64(exp)), nil))
		}
		sum.Add(sum, product)
	}
	return int(sum.Mod(sum, big.NewInt(32003)).Int64())
}

func someValues() [][]int {
	return [][]int{
		{0, 0, 0, 0, 0, 0, 0}, {1, 1, 1, 1, 1, 1, 1}, {2, 3, 5, 7, 11, 13, 17}, {-1, -2, -3, -4, -5, -6, -7}, {32002, 32003, 32004, -32002, -32003, -32004, 64006},
		{1000000007, -1000000007, 1 << 32, -1 << 32, 1 << 62, -1 << 62, 3037000500}, {math.MaxInt, math.MinInt, math.MaxInt - 1, math.MinInt + 1, math.MaxInt, math.MinInt, 0}, repeated(math.MinInt, 7), repeated(math.MaxInt, 7),
	}
}

func TestEvaluatePoly(t *testing.T) {
	is(t, "x0 + x1 at 2 and 3", text(impl.EvaluatePoly(poly("1:0 1, 1:1"), []int{2, 3, 0, 0, 0, 0, 0})), "5")
	is(t, "the constant -1", text(impl.EvaluatePoly(poly("-1:"), make([]int, 7))), "32002")
	is(t, "the constant 32003", text(impl.EvaluatePoly(poly("32003:"), make([]int, 7))), "0")
	is(t, "0", text(impl.EvaluatePoly(nil, repeated(5, 7))), "0")
	polys := append(somePolys(), manyTerms(600, 0, 6, 1000000), manyTerms(600, 3, 1, -1000000), impl.MonomialPoly(repeated(24, 7)), poly("-1000000:24 0 24 0 24 0 24, 1000000:0 24"))
	for _, f := range polys {
		for _, values := range someValues() {
			is(t, shortened(brief("EvaluatePoly at", values, "of", f)), text(impl.EvaluatePoly(f, values)), text(valueOf(f, values)))
		}
	}
}

func TestEvaluatePolyOfSumsAndProducts(t *testing.T) {
	for _, f := range somePolys() {
		for _, g := range somePolys() {
			sum := must(t)(impl.AddPolys(f, -3, g))
			product, ok := impl.MulPolys(f, g)
			for _, values := range someValues() {
				x, y := impl.EvaluatePoly(f, values), impl.EvaluatePoly(g, values)
				is(t, text("f - 3 g with", f, g, values), text(impl.EvaluatePoly(sum, values)), text((x+32000*y)%32003))
				if ok {
					is(t, text("f g with", f, g, values), text(impl.EvaluatePoly(product, values)), text(x*y%32003))
				}
			}
		}
	}
}

func TestEvaluatePolyOfNone(t *testing.T) {
	for _, f := range [][]impl.Term{nil, poly("1:"), poly("1:1")} {
		for _, values := range [][]int{nil, {}, {1}, make([]int, 6), make([]int, 8), make([]int, 100000)} {
			is(t, brief("EvaluatePoly at", values), text(impl.EvaluatePoly(f, values)), "-1")
		}
	}
	for _, f := range notPolys() {
		for _, values := range [][]int{nil, make([]int, 7), repeated(3, 7), make([]int, 8)} {
			is(t, shortened(brief("EvaluatePoly of", f)), text(impl.EvaluatePoly(f, values)), "-1")
		}
	}
}

func TestFormatPoly(t *testing.T) {
	z := func(coef int, exp ...int) impl.Term { return term(coef, append(exp, make([]int, 7-len(exp))...)...) }
	for want, f := range map[string][]impl.Term{
		"0": {}, "1:": {z(1)}, "-1000000:": {z(-1000000)}, "1:1": {z(1, 1)}, "-12:0 3": {z(-12, 0, 3)}, "1000000:24 0 1": {z(1000000, 24, 0, 1)}, "1:0 0 0 0 0 0 1": {z(1, 0, 0, 0, 0, 0, 0, 1)},
		"1:1 2 3 4 5 6 7": {z(1, 1, 2, 3, 4, 5, 6, 7)}, "1:0 1, 1:1": {z(1, 0, 1), z(1, 1)}, "3:0 0 2, -2:5 1, 7:1, 1:": {z(3, 0, 0, 2), z(-2, 5, 1), z(7, 1), z(1)},
	} {
		is(t, text("FormatPoly of", f), impl.FormatPoly(f), want)
		is(t, "ParsePoly of "+want, text(impl.ParsePoly(want)), text(f, true))
	}
	is(t, "FormatPoly of nil", impl.FormatPoly(nil), "0")
	for _, f := range notPolys() {
		is(t, shortened(brief("FormatPoly of", f)), impl.FormatPoly(f), "")
	}
}

func TestParsePolyReadsWhatFormatPolyWrites(t *testing.T) {
	polys := append(somePolys(), manyTerms(600, 0, 1, -1000000), manyTerms(600, 5, 6, 1000000), manyTerms(599, 4, 2, 3), impl.MonomialPoly(repeated(24, 7)))
	for _, f := range polys {
		is(t, shortened(brief("ParsePoly of what FormatPoly writes for", f)), text(impl.ParsePoly(impl.FormatPoly(f))), text(f, true))
	}
}

// writtenTerms writes terms down, whether they are a polynomial or not.
func writtenTerms(f []impl.Term) string {
	var pieces []string
	for _, term := range f {
		exp := slices.Clone(term.Exp)
		for len(exp) > 0 && exp[len(exp)-1] == 0 {
			exp = exp[:len(exp)-1]
		}
		pieces = append(pieces, impl.FormatInt(term.Coef)+":"+impl.FormatInts(exp))
	}
	return strings.Join(pieces, ", ")
}

func TestParsePolyFails(t *testing.T) {
	texts := []string{
		"", " ", ":", "::", "1", "x", "00", "-0", "+0", "0 ", " 0", "0:", "0:1", "-0:1", "0, 0", "0, 1:1", "1:1, 0", "1:1, 0:", "1:0", "1:1 0", "1:0 0 0 0 0 0 0", "1:0 0 0 0 0 0 0 1", "1:1 1 1 1 1 1 1 1",
		"+1:1", "01:1", "1:01", "1:+1", "1:-1", "1:25", "1:0 25", "1:-0", "1: 1", "1:1 ", " 1:1", "1 :1", "1:1  2", "1::1", "1:1:1", "1:1,2", "1:1.", ":1", ":1, 1:", "1:1, ", ", 1:1", ",", ", ", "1:1,", ",1:1",
		"1:0 1,1:1", "1:0 1,  1:1", "1:0 1 , 1:1", "1:0 1; 1:1", "1:0 1, 1:1, ", "1:0 1, , 1:1", "1:0 1\n1:1", "1:0 1,\t1:1", "1:1\n", "1:1\x00", "1:\u0661", "\u0661:1", "\xff:1", "1:1\xff", "1:0x1", "1e1:1",
		"1:1, 1:0 1", "1:1, 1:1", "1:, 1:1", "1:1, -1:1", "1:0 1, 1:5, 1:0 1", "1:5, 1:0 1", "1000001:", "-1000001:1", "1:1, 1000001:", "999999999:", "1000000000:", "9223372036854775808:", "4294967297:", "1:4294967296", "1:18446744073709551616",
		writtenTerms(manyTerms(601, 0, 1, 1)), writtenTerms(manyTerms(625, 5, 6, 1)), strings.Repeat("1:, ", 100000), strings.Repeat("1:1 ", 100000), "1:" + strings.Repeat("0 ", 100000) + "1", strings.Repeat(":", 100000), strings.Repeat("9", 100000) + ":",
	}
	for _, s := range texts {
		is(t, fmt.Sprintf("ParsePoly of %.60q", s), text(impl.ParsePoly(s)), "[] false")
	}
	is(t, "ParsePoly of 600 terms", text(impl.ParsePoly(writtenTerms(manyTerms(600, 0, 1, 1)))), text(manyTerms(600, 0, 1, 1), true))
	for _, f := range notPolys() {
		if len(f) > 0 && (len(f[0].Exp) == 7) && len(f[len(f)-1].Exp) == 7 {
			is(t, shortened(brief("ParsePoly of the text of", f)), text(impl.ParsePoly(writtenTerms(f))), "[] false")
		}
	}
}
