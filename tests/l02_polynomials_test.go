package tests

import (
	"fmt"
	"math"
	"math/rand/v2"
	"slices"
	"testing"

	"loop.example/g03113/impl"
)

func TestLimitsOfPolynomials(t *testing.T) {
	is(t, "MaxTerms, MaxExp, MaxCoef, Prime", text(impl.MaxTerms, impl.MaxExp, impl.MaxCoef, impl.Prime), "600 24 1000000 32003")
	is(t, "Term", text(impl.Term{Exp: []int{1, 2}, Coef: 3}), "{[1 2] 3}")
}

func TestPolyOk(t *testing.T) {
	for _, f := range append(somePolys(), manyTerms(600, 0, 1, 1), manyTerms(600, 2, 6, -1000000), manyTerms(599, 5, 3, 1000000)) {
		isTrue(t, text("PolyOk of", f), impl.PolyOk(f))
	}
	for i := range 7 {
		top := impl.Term{Exp: make([]int, 7), Coef: 1}
		top.Exp[i] = 24
		isTrue(t, text("PolyOk of", top), impl.PolyOk([]impl.Term{top}))
	}
	isTrue(t, "PolyOk of the greatest exponents", impl.PolyOk([]impl.Term{{Exp: repeated(24, 7), Coef: 1000000}, {Exp: repeated(0, 7), Coef: -1000000}}))
	for _, f := range notPolys() {
		isFalse(t, shortened(brief("PolyOk of", f)), impl.PolyOk(f))
	}
}

// TestOrderOfTerms takes all pairs of different terms with exponents 0 and 1 and
// some others: just one order of both is right.
func TestOrderOfTerms(t *testing.T) {
	exps := append(wordsOf(2, 7), []int{24, 0, 0, 0, 0, 0, 0}, []int{24, 24, 24, 24, 24, 24, 0}, []int{0, 3, 0, 2, 0, 0, 1}, []int{5, 3, 0, 1, 7, 0, 1})
	for _, a := range exps {
		for _, b := range exps {
			first := false
			for i := range a {
				if a[i] != b[i] {
					first = a[i] > b[i]
				}
			}
			f := []impl.Term{{Exp: a, Coef: 2}, {Exp: b, Coef: 1}}
			if impl.PolyOk(f) != first {
				t.Errorf("PolyOk of %v is not %v", f, first)
			}
		}
	}
	is(t, "all variables", impl.FormatPoly(sumOfVariables(t)), "1:0 0 0 0 0 0 1, 1:0 0 0 0 0 1, 1:0 0 0 0 1, 1:0 0 0 1, 1:0 0 1, 1:0 1, 1:1")
}

func sumOfVariables(t *testing.T) []impl.Term {
	var sum []impl.Term
	for i := range 7 {
		sum = must(t)(impl.AddPolys(sum, 1, variable(i).terms()))
	}
	return sum
}

func TestConstantPoly(t *testing.T) {
	for _, k := range []int{1, -1, 7, 999999, 1000000, -1000000} {
		is(t, text("ConstantPoly of", k), text(impl.ConstantPoly(k)), text([]impl.Term{term(k, 0, 0, 0, 0, 0, 0, 0)}))
	}
	for _, k := range []int{0, 1000001, -1000001, 1 << 32, math.MaxInt, math.MinInt} {
		is(t, text("ConstantPoly of", k), text(impl.ConstantPoly(k)), "[]")
	}
}

func TestMonomialPoly(t *testing.T) {
	for _, exp := range [][]int{nil, {}, {0}, {1}, {0, 0, 2}, {24}, {3, 0, 1, 0, 5}, {1, 2, 3, 4, 5, 6}, {0, 0, 0, 0, 0, 0, 1}, {24, 24, 24, 24, 24, 24, 24}} {
		want := append(slices.Clone(exp), make([]int, 7-len(exp))...)
		is(t, text("MonomialPoly of", exp), text(impl.MonomialPoly(exp)), text([]impl.Term{{Exp: want, Coef: 1}}))
	}
	for _, exp := range [][]int{{-1}, {25}, {0, 0, 0, 0, 0, 0, 25}, {0, -1}, {0, 0, 0, 0, 0, 0, 0, 0}, {1, 1, 1, 1, 1, 1, 1, 1}, {math.MaxInt}, {math.MinInt}, {1 << 32}, {256}, make([]int, 100000)} {
		is(t, brief("MonomialPoly of", exp), text(impl.MonomialPoly(exp)), "[]")
	}
}

func TestAddPolys(t *testing.T) {
	is(t, "x0 + 2 x1", impl.FormatPoly(must(t)(impl.AddPolys(poly("1:1"), 2, poly("1:0 1")))), "2:0 1, 1:1")
	is(t, "x0 - x0", text(impl.AddPolys(poly("1:1"), -1, poly("1:1"))), "[] true")
	is(t, "0 + 0", text(impl.AddPolys(nil, 1, nil)), "[] true")
	for _, f := range somePolys() {
		for _, g := range somePolys() {
			for _, k := range []int{0, 1, -1, 3, 1000, -1000} {
				is(t, text("AddPolys of", f, k, g), text(impl.AddPolys(f, k, g)), freeOf(f).plus(k, freeOf(g)).want())
			}
		}
	}
}

func TestAddPolysFactors(t *testing.T) {
	x := poly("1:1")
	is(t, "0 + 1000 x", text(impl.AddPolys(nil, 1000, x)), text(poly("1000:1"), true))
	is(t, "0 - 1000 x", text(impl.AddPolys(nil, -1000, x)), text(poly("-1000:1"), true))
	is(t, "1 + 0 x", text(impl.AddPolys(poly("1:"), 0, x)), text(poly("1:"), true))
	for _, k := range []int{1001, -1001, 1 << 32, -1 << 32, math.MaxInt, math.MinInt} {
		for _, f := range [][]impl.Term{nil, x} {
			is(t, text("AddPolys with", k), text(impl.AddPolys(f, k, f)), "[] false")
		}
	}
}

func TestAddPolysCoefficients(t *testing.T) {
	for _, c := range []struct {
		f    string
		k    int
		g    string
		want string
	}{
		{"999999:1", 1, "1:1", "1000000:1"}, {"1000000:1", 1, "1:1", ""}, {"-999999:1", -1, "1:1", "-1000000:1"}, {"-1000000:1", -1, "1:1", ""},
		{"0", 1000, "1000:1", "1000000:1"}, {"0", 1000, "1001:1", ""}, {"0", -1000, "1000:1", "-1000000:1"}, {"0", -1000, "1001:1", ""},
		{"-1000000:1", 2, "1000000:1", "1000000:1"}, {"-1000000:1", 3, "1000000:1", ""}, {"1000000:1", -2, "1000000:1", "-1000000:1"},
		{"0", 1000, "1000000:1", ""}, {"0", 0, "1000000:1", "0"}, {"1000000:1", -1, "1000000:1", "0"}, {"1:1, 1000000:", 1, "1:", ""}, {"1:1, 1:", -1, "1:", "1:1"},
	} {
		want := "[] false"
		if c.want != "" {
			want = text(poly(c.want), true)
		}
		is(t, text("AddPolys of", c.f, c.k, c.g), text(impl.AddPolys(poly(c.f), c.k, poly(c.g))), want)
	}
}

func TestAddPolysOfManyTerms(t *testing.T) {
	full := manyTerms(600, 0, 1, 1)
	first, other := full[:1], poly("1:0 0 1")
	is(t, "600 terms and 0", text(impl.AddPolys(full, 1, nil)), text(full, true))
	is(t, "0 and 600 terms", text(impl.AddPolys(nil, 1, full)), text(full, true))
	is(t, "600 terms less themselves", text(impl.AddPolys(full, -1, full)), "[] true")
	is(t, "600 terms less one of them", text(impl.AddPolys(full, -1, first)), text(full[1:], true))
	is(t, "600 terms and another one", text(impl.AddPolys(full, 1, other)), "[] false")
	is(t, "another one and 600 terms", text(impl.AddPolys(other, 1, full)), "[] false")
	is(t, "600 terms and 0 times another one", text(impl.AddPolys(full, 0, other)), text(full, true))
	is(t, "599 terms and another one", text(impl.AddPolys(full[1:], 1, other)), freeOf(full[1:]).plus(1, freeOf(other)).want())
	exchange := freeOf(other).plus(-1, freeOf(first)).terms()
	is(t, "600 terms with another one in the place of one", text(impl.AddPolys(full, 1, exchange)), freeOf(full[1:]).plus(1, freeOf(other)).want())
	is(t, "1200 terms", text(impl.AddPolys(manyTerms(600, 0, 1, 1), 1, manyTerms(600, 2, 3, 1))), "[] false")
}

func TestMulPolys(t *testing.T) {
	is(t, "(x0 + x1)(x0 - x1)", impl.FormatPoly(must(t)(impl.MulPolys(poly("1:0 1, 1:1"), poly("-1:0 1, 1:1")))), "-1:0 2, 1:2")
	is(t, "0 times x0", text(impl.MulPolys(nil, poly("1:1"))), "[] true")
	for _, f := range somePolys() {
		for _, g := range somePolys() {
			is(t, text("MulPolys of", f, g), text(impl.MulPolys(f, g)), freeOf(f).times(freeOf(g)).want())
		}
	}
}

func TestMulPolysAtTheLimits(t *testing.T) {
	for _, c := range []struct{ f, g, want string }{
		{"1:12", "1:12", "1:24"}, {"1:12", "1:13", ""}, {"1:0 0 0 0 0 0 24", "1:", "1:0 0 0 0 0 0 24"}, {"1:0 0 0 0 0 0 24", "1:0 0 0 0 0 0 1", ""}, {"1:24", "1:24", ""},
		{"1:24", "0", "0"}, {"1000:1", "1000:", "1000000:1"}, {"1000:1", "1001:", ""}, {"1000:1", "-1000:", "-1000000:1"}, {"1000:1", "-1001:", ""}, {"1000000:1", "1000000:1", ""},
		{"1000000:0 1, 1000000:1", "-1:0 1, 1:1", "-1000000:0 2, 1000000:2"}, {"1000000:0 1, 1000000:1", "1:0 1, 1:1", ""}, {"1:1, 1:", "1:24", ""},
	} {
		want := "[] false"
		if c.want != "" {
			want = text(poly(c.want), true)
		}
		is(t, text("MulPolys of", c.f, c.g), text(impl.MulPolys(poly(c.f), poly(c.g))), want)
	}
}

func TestMulPolysOfManyTerms(t *testing.T) {
	powers := func(i int, n int) []impl.Term { return manyTerms(n, i, (i+1)%7, 1) }
	is(t, "25 terms and 24", text(impl.MulPolys(powers(0, 25), powers(3, 24))), freeOf(powers(0, 25)).times(freeOf(powers(3, 24))).want())
	isTrue(t, "there are 600 of them", len(must(t)(impl.MulPolys(powers(0, 25), powers(3, 24)))) == 600)
	is(t, "25 terms and 25", text(impl.MulPolys(powers(0, 25), powers(3, 25))), "[] false")
	is(t, "600 terms and 600 others", text(impl.MulPolys(manyTerms(600, 0, 1, 1), manyTerms(600, 3, 4, 1))), "[] false")
	is(t, "600 terms and 1", text(impl.MulPolys(manyTerms(600, 0, 1, -7), poly("1:"))), text(manyTerms(600, 0, 1, -7), true))
	// On the way, there are 729 products.
	cube := must(t)(impl.MulPolys(must(t)(impl.MulPolys(powers(0, 8), powers(2, 8))), powers(4, 8)))
	corner := must(t)(impl.MulPolys(must(t)(impl.MulPolys(poly("1:1, -1:"), poly("1:0 0 1, -1:"))), poly("1:0 0 0 0 1, -1:")))
	is(t, "512 terms and 8", impl.FormatPoly(must(t)(impl.MulPolys(cube, corner))), "1:8 0 8 0 8, -1:0 0 8 0 8, -1:8 0 0 0 8, 1:0 0 0 0 8, -1:8 0 8, 1:0 0 8, 1:8, -1:")
}

// TestRing depends on nothing but the functions of the program.
func TestRing(t *testing.T) {
	source := rand.New(rand.NewPCG(3, 5))
	add := func(f, g []impl.Term) []impl.Term { return must(t)(impl.AddPolys(f, 1, g)) }
	mul := func(f, g []impl.Term) []impl.Term { return must(t)(impl.MulPolys(f, g)) }
	for range 200 {
		f, g, h := randomPoly(source, 6, 5), randomPoly(source, 6, 5), randomPoly(source, 6, 5)
		what := text("with", f, g, h)
		is(t, what+": f + g is g + f", text(add(f, g)), text(add(g, f)))
		is(t, what+": (f + g) + h is f + (g + h)", text(add(add(f, g), h)), text(add(f, add(g, h))))
		is(t, what+": f g is g f", text(mul(f, g)), text(mul(g, f)))
		is(t, what+": (f g) h is f (g h)", text(mul(mul(f, g), h)), text(mul(f, mul(g, h))))
		is(t, what+": f (g + h) is f g + f h", text(mul(f, add(g, h))), text(add(mul(f, g), mul(f, h))))
		is(t, what+": f 1 is f", text(mul(f, impl.ConstantPoly(1))), text(f))
		is(t, what+": f 0 is 0", text(mul(f, nil)), "[]")
		is(t, what+": f + 0 is f", text(add(f, nil)), text(f))
		is(t, what+": f - f is 0", text(add(f, mul(f, impl.ConstantPoly(-1)))), "[]")
		is(t, what+": f + 3 g is f + (3 g)", text(impl.AddPolys(f, 3, g)), text(add(f, mul(impl.ConstantPoly(3), g)), true))
	}
}

func TestSumsAndProductsOfNone(t *testing.T) {
	for _, bad := range notPolys() {
		for _, f := range append([][]impl.Term{nil, poly("1:"), poly("1:1")}, bad) {
			what := shortened(brief("with", f, bad))
			for _, k := range []int{0, 1, 1001} {
				is(t, "AddPolys "+what, text(impl.AddPolys(f, k, bad)), "[] false")
				is(t, "AddPolys, exchanged, "+what, text(impl.AddPolys(bad, k, f)), "[] false")
			}
			is(t, "MulPolys "+what, text(impl.MulPolys(f, bad)), "[] false")
			is(t, "MulPolys, exchanged, "+what, text(impl.MulPolys(bad, f)), "[] false")
		}
	}
}

func TestDegreeOf(t *testing.T) {
	for s, want := range map[string]int{
		"0": -1, "1:": 0, "-5:": 0, "1:1": 1, "1:0 0 0 0 0 0 1, 1:5": 5, "1:0 0 0 0 0 0 6, 1:5": 6, "1:3 2 1, 1:0 5": 6, "1:24 24 24 24 24 24 24": 168, "1:1, 1:": 1,
	} {
		is(t, "DegreeOf "+s, text(impl.DegreeOf(poly(s))), text(want))
	}
	is(t, "DegreeOf 600 terms", text(impl.DegreeOf(manyTerms(600, 0, 1, 1))), "47")
	for _, f := range notPolys() {
		is(t, shortened(brief("DegreeOf", f)), text(impl.DegreeOf(f)), "-1")
	}
}

func TestPartOfDegree(t *testing.T) {
	f := poly("1:0 0 1, 3:1 1, 2:0 1, -4:2, 5:1, 7:")
	for d, want := range map[int]string{-1: "0", 0: "7:", 1: "1:0 0 1, 2:0 1, 5:1", 2: "3:1 1, -4:2", 3: "0", math.MaxInt: "0", math.MinInt: "0"} {
		is(t, text("PartOfDegree", d), impl.FormatPoly(impl.PartOfDegree(f, d)), want)
	}
	for _, f := range append(somePolys(), manyTerms(600, 0, 1, 1)) {
		var sum []impl.Term
		for d := range 169 {
			sum = must(t)(impl.AddPolys(sum, 1, impl.PartOfDegree(f, d)))
		}
		is(t, shortened(brief("all parts of", f)), text(sum), text(f))
	}
	for _, f := range notPolys() {
		for d := -2; d <= 2; d++ {
			is(t, shortened(brief("PartOfDegree of", f)), text(impl.PartOfDegree(f, d)), "[]")
		}
	}
}

func TestCoefficientOf(t *testing.T) {
	for _, f := range append(somePolys(), manyTerms(600, 0, 1, 5)) {
		for _, term := range f {
			is(t, shortened(brief("CoefficientOf", term.Exp, "in", f)), text(impl.CoefficientOf(f, term.Exp)), text(term.Coef))
		}
		for _, exp := range [][]int{nil, {1}, {0, 0, 0, 0, 0, 0, 0, 0}, {0, 0, 0, 0, 0, 0}, {9, 0, 9, 0, 0, 0, 9}, {-1, 0, 0, 0, 0, 0, 0}} {
			is(t, shortened(brief("CoefficientOf", exp, "in", f)), text(impl.CoefficientOf(f, exp)), "0")
		}
	}
}

func TestCoefficientOfAnyList(t *testing.T) {
	f := []impl.Term{term(7, 1), term(8, 1), term(0, 2), term(5, 2), term(6), term(math.MinInt, -3, math.MaxInt), term(2000000, 0, 0, 0, 0, 0, 0, 0, 0), term(9, 1, 0)}
	for _, c := range []struct {
		exp  []int
		want int
	}{
		{[]int{1}, 7}, {[]int{2}, 0}, {nil, 6}, {[]int{}, 6}, {[]int{-3, math.MaxInt}, math.MinInt}, {make([]int, 8), 2000000}, {make([]int, 7), 0}, {[]int{1, 0}, 9}, {[]int{1, 0, 0}, 0},
		{[]int{3}, 0}, {make([]int, 100000), 0},
	} {
		is(t, brief("CoefficientOf", c.exp), text(impl.CoefficientOf(f, c.exp)), text(c.want))
	}
	is(t, "CoefficientOf in a term without exponents", text(impl.CoefficientOf([]impl.Term{{Exp: []int{}, Coef: 3}}, nil)), "3")
	is(t, "CoefficientOf in no terms", fmt.Sprint(impl.CoefficientOf(nil, nil), impl.CoefficientOf(nil, make([]int, 7))), "0 0")
}
