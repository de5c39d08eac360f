package tests

import (
	"math/rand/v2"
	"testing"

	"loop.example/g03113/impl"
)

// operator is one of the four functions that take a polynomial and a place, with
// what the definition makes of it.
type operator struct {
	name string
	fn   func(f []impl.Term, i int) ([]impl.Term, bool)
	def  func(p free, i int) free
}

func operators() []operator {
	return []operator{
		{"DividedDifference", impl.DividedDifference, free.difference},
		{"DemazureOf", impl.DemazureOf, free.demazure},
		{"AtomOf", impl.AtomOf, free.atom},
		{"IsobaricOf", impl.IsobaricOf, free.isobaric},
	}
}

func TestSwapVariables(t *testing.T) {
	is(t, "x0 at 0", impl.FormatPoly(impl.SwapVariables(poly("1:1"), 0)), "1:0 1")
	is(t, "x5 at 5", impl.FormatPoly(impl.SwapVariables(poly("1:0 0 0 0 0 1"), 5)), "1:0 0 0 0 0 0 1")
	is(t, "the order of the terms changes", impl.FormatPoly(impl.SwapVariables(poly("2:0 1 2, 3:4, 5:3"), 1)), "2:0 2 1, 3:4, 5:3")
	is(t, "the order of the terms is turned", impl.FormatPoly(impl.SwapVariables(poly("2:0 1, 3:1"), 0)), "3:0 1, 2:1")
	for _, f := range append(somePolys(), manyTerms(600, 2, 3, 1), manyTerms(600, 3, 2, 1), manyTerms(600, 1, 5, 1000000)) {
		for i := range 6 {
			is(t, shortened(brief("SwapVariables at", i, "of", f)), text(impl.SwapVariables(f, i)), text(freeOf(f).swapped(i).terms()))
			is(t, shortened(brief("SwapVariables twice at", i, "of", f)), text(impl.SwapVariables(impl.SwapVariables(f, i), i)), text(f))
		}
	}
}

func TestOperatorsOfOneTerm(t *testing.T) {
	for _, c := range []struct {
		f    string
		i    int
		want string
	}{
		{"0", 0, "0, 0, 0, 0"}, {"1:", 0, "0, 1:, 0, 1:"}, {"1:1", 0, "1:, 1:0 1, 1:1, 1:0 1, 1:"}, {"1:0 1", 0, "-1:, 0, -1:0 1, 1:0 1, 1:1, -1:"},
		{"1:2", 0, "1:0 1, 1:1, 1:0 2, 1:1 1, 1:2, 1:0 2, 1:1 1, -1:1 1, 1:0 1, 1:1"}, {"3:1 1", 0, "0, 3:1 1, 0, 3:1 1"}, {"1:0 1", 4, "0, 1:0 1, 0, 1:0 1"},
		{"1:0 0 0 0 0 1", 5, "1:, 1:0 0 0 0 0 0 1, 1:0 0 0 0 0 1, 1:0 0 0 0 0 0 1, 1:"}, {"2:0 0 0 0 0 0 1", 5, "-2:, 0, -2:0 0 0 0 0 0 1, 2:0 0 0 0 0 0 1, 2:0 0 0 0 0 1, -2:"},
	} {
		got := ""
		for k, o := range operators() {
			if k > 0 {
				got += ", "
			}
			got += impl.FormatPoly(must(t)(o.fn(poly(c.f), c.i)))
		}
		is(t, text("the operators of", c.f, "at", c.i), got, c.want)
	}
}

func TestOperatorsAreAsDefined(t *testing.T) {
	polys := append(somePolys(), manyTerms(20, 0, 1, -3), manyTerms(60, 1, 2, 1), manyTerms(60, 6, 5, 1))
	for _, o := range operators() {
		for _, f := range polys {
			for i := range 6 {
				is(t, shortened(brief(o.name, "at", i, "of", f)), text(o.fn(f, i)), o.def(freeOf(f), i).want())
			}
		}
	}
}

// TestDividedDifferenceDividesAgain depends on nothing but the functions of the
// program.
func TestDividedDifferenceDividesAgain(t *testing.T) {
	for _, f := range somePolys() {
		for i := range 6 {
			difference := must(t)(impl.AddPolys(variable(i).terms(), -1, variable(i+1).terms()))
			product := must(t)(impl.MulPolys(difference, must(t)(impl.DividedDifference(f, i))))
			is(t, text("at", i, "of", f), text(product, true), text(impl.AddPolys(f, -1, impl.SwapVariables(f, i))))
		}
	}
}

// checkNear checks an operator at the place 0 for beginnings of a polynomial:
// some results are within the limits, and some are not.
func checkNear(t *testing.T, o operator, f []impl.Term) {
	t.Helper()
	good, bad := 0, 0
	for n := 1; n <= len(f); n += 19 {
		want := o.def(freeOf(f[:n]), 0).want()
		is(t, text(o.name, "of", n, "terms"), text(o.fn(f[:n], 0)), want)
		if want == "[] false" {
			bad++
		} else {
			good++
		}
	}
	if good == 0 || bad == 0 {
		t.Errorf("%s: %d results within the limits, %d beyond", o.name, good, bad)
	}
}

func TestOperatorsAtTheLimitOfTerms(t *testing.T) {
	for k, o := range operators() {
		// For each power of x2 in it, the result has this number of terms, and
		// one term more makes just so many results of 600.
		long := []int{24, 25, 24, 47}[k]
		last := []int{0, 0, 0, 18}[k]
		var f []impl.Term
		for n := range 600 / long {
			f = append(f, term(1, 24, 0, 600/long-n-1, 0, 0, 0, 0))
		}
		if last > 0 {
			f = append(f, term(1, last, 0, 0, 0, 0, 0, 1))
			f = append(f[len(f)-1:], f[:len(f)-1]...)
			f = append([]impl.Term{term(1, 1, 0, 0, 0, 0, 0, 2)}, f...)
		}
		got := must(t)(o.fn(f, 0))
		is(t, o.name+": number of terms", text(len(got)), "600")
		is(t, o.name, text(got, true), o.def(freeOf(f), 0).want())
		more := append(f, term(1, 1, 0, 0, 0, 0, 0, 0))
		is(t, o.name+" of one term more", text(o.fn(more, 0)), "[] false")
	}
}

func TestOperatorsNearTheLimitOfTerms(t *testing.T) {
	for _, o := range operators() {
		checkNear(t, o, manyTerms(600, 2, 0, 1))
		checkNear(t, o, manyTerms(600, 0, 3, -5))
	}
}

func TestOperatorsAtTheGreatestExponents(t *testing.T) {
	for _, o := range operators() {
		for _, f := range [][]impl.Term{
			poly("1:24"), poly("1:0 24"), poly("1:24 24"), poly("1:24 23"), poly("1:23 24"), poly("1:24 0 24 0 24 0 24"), poly("1:0 24 0 24 0 24"), impl.MonomialPoly(repeated(24, 7)),
		} {
			for i := range 6 {
				p := o.def(freeOf(f), i)
				isTrue(t, text(o.name, "at", i, "of", f, "is a polynomial"), p.withinLimits())
				is(t, text(o.name, "at", i, "of", f), text(o.fn(f, i)), p.want())
			}
		}
	}
}

func TestOperatorsAtTheGreatestCoefficients(t *testing.T) {
	good, bad := 0, 0
	for _, s := range []string{
		"1000000:1", "-1000000:1", "1000000:0 1", "-1000000:0 1", "1000000:", "1000000:0 1, -1000000:1", "1000000:0 1, 1000000:1", "1000000:24", "-1000000:0 24",
		"500000:2 1, 500000:3", "500001:2 1, 500000:3", "500000:2 1, 500001:3", "-500000:2 1, -500000:3", "-500001:2 1, -500000:3", "500000:0 3, 500000:1 2", "500000:0 3, 500001:1 2", "1000000:2 1, -1000000:3",
		"600000:1 1, 600000:2", "1000000:1 1, 1000000:2", "-1000000:1 1, -1000000:2", "600000:1 1, -600000:2", "1000000:0 1, 1000000:1, -1000000:", "-1000000:0 1, 1000000:", "-1000000:1 1, -1000000:0 1, -1000000:1, 1000000:",
	} {
		for _, o := range operators() {
			want := o.def(freeOf(poly(s)), 0).want()
			is(t, text(o.name, "of", s), text(o.fn(poly(s), 0)), want)
			if want == "[] false" {
				bad++
			} else {
				good++
			}
		}
	}
	if good < 20 || bad < 20 {
		t.Errorf("%d results within the limits, %d beyond", good, bad)
	}
}

// TestWhatIsMetOnTheWayHasNoLimits takes results that are polynomials, though
// what the definition meets before them is none.
func TestWhatIsMetOnTheWayHasNoLimits(t *testing.T) {
	twice := manyTerms(400, 2, 3, 1)
	moved := manyTerms(400, 2, 3, 1)
	for k := range twice {
		twice[k].Exp[0], moved[k].Exp[1] = 1, 1
	}
	is(t, "DemazureOf with 800 terms", text(impl.DemazureOf(twice, 0)), "[] false")
	is(t, "AtomOf with 800 terms on the way", text(impl.AtomOf(twice, 0)), text(moved, true))
	sum := poly("600000:1 1, 600000:2")
	is(t, "DemazureOf with a coefficient of 1200000", text(impl.DemazureOf(sum, 0)), "[] false")
	is(t, "AtomOf with a coefficient of 1200000 on the way", text(impl.AtomOf(sum, 0)), text(poly("600000:0 2, 600000:1 1"), true))
	full := manyTerms(600, 2, 3, 1)
	is(t, "IsobaricOf with 1200 terms on the way", text(impl.IsobaricOf(full, 0)), text(full, true))
	is(t, "DemazureOf with 600 terms", text(impl.DemazureOf(full, 0)), text(full, true))
	is(t, "AtomOf of 600 terms that are symmetric", text(impl.AtomOf(full, 0)), "[] true")
	is(t, "DividedDifference of 600 terms that are symmetric", text(impl.DividedDifference(full, 0)), "[] true")
	symmetric := poly("-1000000:0 1, -1000000:1, 1000000:")
	is(t, "IsobaricOf with a coefficient of -2000000 on the way", text(impl.IsobaricOf(symmetric, 0)), text(symmetric, true))
	is(t, "DemazureOf with an exponent of 25 on the way", text(impl.DemazureOf(poly("1:24 24"), 0)), text(poly("1:24 24"), true))
	is(t, "IsobaricOf with an exponent of 25 on the way", text(impl.IsobaricOf(poly("1:24 24"), 0)), text(poly("1:24 24"), true))
}

// TestBraids checks what squares of operators are, and the braids, with nothing
// but the functions of the program.
func TestBraids(t *testing.T) {
	for k, o := range operators() {
		at := func(f []impl.Term, places ...int) []impl.Term {
			for _, i := range places {
				f = must(t)(o.fn(f, i))
			}
			return f
		}
		for _, f := range somePolys() {
			what := text(o.name, "of", f)
			for i := range 6 {
				square := must(t)(impl.AddPolys(nil, []int{0, 1, -1, 1}[k], at(f, i)))
				is(t, text(what, "twice at", i), text(at(f, i, i)), text(square))
				for j := range i {
					if j == i-1 {
						is(t, text(what, "at", i, j, i), text(at(f, i, j, i)), text(at(f, j, i, j)))
					} else {
						is(t, text(what, "at", i, j), text(at(f, i, j)), text(at(f, j, i)))
					}
				}
			}
		}
	}
}

// TestRuleOfProducts: the difference of f g is that of f times g, plus f swapped
// times that of g.
func TestRuleOfProducts(t *testing.T) {
	source := rand.New(rand.NewPCG(11, 13))
	difference := func(f []impl.Term, i int) []impl.Term { return must(t)(impl.DividedDifference(f, i)) }
	mul := func(f, g []impl.Term) []impl.Term { return must(t)(impl.MulPolys(f, g)) }
	for range 100 {
		f, g := randomPoly(source, 6, 5), randomPoly(source, 6, 5)
		for i := range 6 {
			want := must(t)(impl.AddPolys(mul(difference(f, i), g), 1, mul(impl.SwapVariables(f, i), difference(g, i))))
			is(t, text("at", i, "of", f, g), text(difference(mul(f, g), i)), text(want))
			is(t, text("swapped at", i, "of", f, g), text(impl.SwapVariables(mul(f, g), i)), text(mul(impl.SwapVariables(f, i), impl.SwapVariables(g, i))))
		}
	}
}

// TestOperatorsOfSymmetricFactors: what is symmetric goes through an operator.
func TestOperatorsOfSymmetricFactors(t *testing.T) {
	source := rand.New(rand.NewPCG(17, 19))
	for range 20 {
		f, g := randomPoly(source, 5, 3), randomPoly(source, 5, 3)
		for i := range 6 {
			symmetric := must(t)(impl.AddPolys(g, 1, impl.SwapVariables(g, i)))
			product := must(t)(impl.MulPolys(symmetric, f))
			for _, o := range operators() {
				is(t, text(o.name, "at", i, "of", f, symmetric), text(o.fn(product, i)), text(impl.MulPolys(symmetric, must(t)(o.fn(f, i)))))
			}
		}
	}
}

func TestIsSymmetricAt(t *testing.T) {
	for s, places := range map[string]string{
		"0": "0 1 2 3 4 5", "7:": "0 1 2 3 4 5", "1:1": "1 2 3 4 5", "1:0 1, 1:1": "0 2 3 4 5", "2:0 1, 1:1": "2 3 4 5", "1:0 1, -1:1": "2 3 4 5", "1:1 1": "0 2 3 4 5",
		"1:0 0 1, 1:0 1, 1:1": "0 1 3 4 5", "1:0 0 0 0 0 0 1": "0 1 2 3 4", "1:0 0 0 0 0 1": "0 1 2 3", "1:0 0 0 0 0 0 1, 1:0 0 0 0 0 1": "0 1 2 3 5", "1:1 2, 1:2 1, 1:1": "2 3 4 5", "1:2 1": "2 3 4 5",
	} {
		var got []int
		for i := -1; i <= 7; i++ {
			if impl.IsSymmetricAt(poly(s), i) {
				got = append(got, i)
			}
		}
		is(t, "the places at which "+s+" is symmetric", impl.FormatInts(got), places)
	}
	for _, f := range append(somePolys(), manyTerms(600, 0, 1, 1)) {
		for i := range 6 {
			is(t, shortened(brief("IsSymmetricAt", i, "of", f)), text(impl.IsSymmetricAt(f, i)), text(text(freeOf(f).swapped(i).terms()) == text(f)))
			for _, o := range operators()[:2] {
				g, ok := o.fn(f, i)
				is(t, shortened(brief(o.name, "at", i, "of", f, "is symmetric")), text(impl.IsSymmetricAt(g, i)), text(true))
				isTrue(t, "or fails", ok || g == nil)
			}
		}
	}
}

func TestOperatorsAtNoPlace(t *testing.T) {
	for _, f := range [][]impl.Term{nil, poly("1:"), poly("1:1"), poly("1:0 0 0 0 0 0 1, 1:0 0 0 0 0 1"), manyTerms(600, 0, 1, 1)} {
		for _, i := range placesOutside() {
			is(t, text("SwapVariables at", i), text(impl.SwapVariables(f, i)), "[]")
			isFalse(t, text("IsSymmetricAt", i), impl.IsSymmetricAt(f, i))
			for _, o := range operators() {
				is(t, text(o.name, "at", i), text(o.fn(f, i)), "[] false")
			}
		}
	}
}

func TestOperatorsOfNone(t *testing.T) {
	for _, f := range notPolys() {
		for _, i := range append(placesOutside(), 0, 1, 2, 3, 4, 5) {
			is(t, shortened(brief("SwapVariables at", i, "of", f)), text(impl.SwapVariables(f, i)), "[]")
			isFalse(t, shortened(brief("IsSymmetricAt", i, "of", f)), impl.IsSymmetricAt(f, i))
			for _, o := range operators() {
				is(t, shortened(brief(o.name, "at", i, "of", f)), text(o.fn(f, i)), "[] false")
			}
		}
	}
}
