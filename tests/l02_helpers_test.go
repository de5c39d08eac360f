package tests

import (
	"math"
	"math/rand/v2"
	"slices"
	"testing"

	"loop.example/g03113/impl"
)

// free is a polynomial without limits: its coefficients, by their exponents. The
// tests compute with it in ways of their own.
type free map[[7]int]int

func freeOf(f []impl.Term) free {
	p := free{}
	for _, term := range f {
		p[[7]int(term.Exp)] = term.Coef
	}
	return p
}

func (p free) plus(k int, q free) free {
	sum := free{}
	for e, coef := range p {
		sum[e] += coef
	}
	for e, coef := range q {
		sum[e] += k * coef
	}
	return sum
}

func (p free) times(q free) free {
	product := free{}
	for a, x := range p {
		for b, y := range q {
			var e [7]int
			for i := range e {
				e[i] = a[i] + b[i]
			}
			product[e] += x * y
		}
	}
	return product
}

func (p free) swapped(i int) free {
	q := free{}
	for e, coef := range p {
		e[i], e[i+1] = e[i+1], e[i]
		q[e] = coef
	}
	return q
}

// variable is xi.
func variable(i int) free {
	var e [7]int
	e[i] = 1
	return free{e: 1}
}

// divided divides by xi - x(i+1) as one divides by hand: the terms with the
// greatest power of xi go first, and there must be no rest.
func (p free) divided(i int) free {
	var rest [60]free
	for power := range rest {
		rest[power] = free{}
	}
	for e, coef := range p {
		rest[e[i]][e] = coef
	}
	quotient := free{}
	for power := len(rest) - 1; power > 0; power-- {
		for e, coef := range rest[power] {
			e[i]--
			quotient[e] += coef
			e[i+1]++
			rest[power-1][e] += coef
		}
	}
	if len(rest[0].terms()) > 0 {
		panic(text("there is a rest:", rest[0].terms()))
	}
	return quotient
}

func (p free) difference(i int) free { return p.plus(-1, p.swapped(i)).divided(i) }

func (p free) demazure(i int) free { return variable(i).times(p).difference(i) }

func (p free) atom(i int) free { return p.demazure(i).plus(-1, p) }

func (p free) isobaric(i int) free { return p.plus(-1, variable(i+1).times(p)).difference(i) }

// terms returns the terms in their order, whether they are within the limits or
// not.
func (p free) terms() []impl.Term {
	var f []impl.Term
	for e, coef := range p {
		if coef != 0 {
			f = append(f, impl.Term{Exp: e[:], Coef: coef})
		}
	}
	slices.SortFunc(f, func(a, b impl.Term) int {
		difference := 0
		for i := range 7 {
			if a.Exp[i] != b.Exp[i] {
				difference = b.Exp[i] - a.Exp[i]
			}
		}
		return difference
	})
	return f
}

func (p free) withinLimits() bool {
	terms := 0
	for e, coef := range p {
		if coef == 0 {
			continue
		}
		if slices.Max(e[:]) > 24 || coef > 1000000 || coef < -1000000 {
			return false
		}
		terms++
	}
	return terms <= 600
}

// want is the text of the result that should be p, and true, or of a failure.
func (p free) want() string {
	if !p.withinLimits() {
		return "[] false"
	}
	return text(p.terms(), true)
}

func term(coef int, exp ...int) impl.Term { return impl.Term{Exp: exp, Coef: coef} }

// poly reads a polynomial that is known to be one.
func poly(s string) []impl.Term {
	f, ok := impl.ParsePoly(s)
	if !ok {
		panic("no polynomial: " + s)
	}
	return f
}

// manyTerms returns the first n of the 625 products of powers of xi and xj, from
// those with the least exponents on, each with the coefficient coef.
func manyTerms(n int, i int, j int, coef int) []impl.Term {
	p := free{}
	for k := range n {
		var e [7]int
		e[i], e[j] = k%25, k/25
		p[e] = coef
	}
	return p.terms()
}

// somePolys returns polynomials of all kinds, small enough to be multiplied.
func somePolys() [][]impl.Term {
	all := [][]impl.Term{
		nil, {}, poly("1:"), poly("-1:"), poly("1000:"), poly("1:1"), poly("1:0 1"), poly("-3:0 0 0 0 0 0 1"), poly("1:0 1, 1:1"), poly("1:0 1, -1:1"),
		poly("2:1 0 3"), poly("1:0 0 0 0 0 0 1, 1:0 0 0 0 0 1, 1:0 0 0 0 1, 1:0 0 0 1, 1:0 0 1, 1:0 1, 1:1, 1:"), poly("5:0 2 1, -7:2 1"), poly("1:8 8 8 8 8 8 8"),
	}
	source := rand.New(rand.NewPCG(2, 7))
	for range 16 {
		all = append(all, randomPoly(source, 1+source.IntN(9), 4))
	}
	return all
}

// randomPoly returns a polynomial of at most n terms with small coefficients.
func randomPoly(source *rand.Rand, n int, greatest int) []impl.Term {
	p := free{}
	for range n {
		var e [7]int
		for range 4 {
			e[source.IntN(7)] = source.IntN(greatest + 1)
		}
		p[e] = source.IntN(19) - 9
	}
	return p.terms()
}

// notPolys returns lists that are no polynomials.
func notPolys() [][]impl.Term {
	good := term(1, 1, 0, 0, 0, 0, 0, 0)
	one := term(1, 0, 0, 0, 0, 0, 0, 0)
	all := [][]impl.Term{
		{{}}, {{}, {}}, {term(1)}, {term(1, 0)}, {term(1, 0, 0, 0, 0, 0, 0)}, {term(1, 0, 0, 0, 0, 0, 0, 0, 0)}, {term(1, make([]int, 1000)...)},
		{one, good}, {good, good}, {good, one, one}, {good, good, one}, {good, one, good}, {good, term(-1, 1, 0, 0, 0, 0, 0, 0)},
		{term(1, 5, 0, 0, 0, 0, 0, 0), term(1, 0, 1, 0, 0, 0, 0, 0)}, {good, term(1, 0, 0, 0, 0, 0, 0, 1)}, {term(1, 0, 1, 2, 0, 0, 0, 0), term(1, 1, 1, 2, 0, 0, 0, 0)},
		{good, term(1)}, {term(1), good}, {good, term(1, 0, 0, 0, 0, 0, 0)}, {good, {}}, manyTerms(601, 0, 1, 1), manyTerms(625, 5, 6, -1), make([]impl.Term, 100000),
	}
	for _, coef := range []int{0, 1000001, -1000001, 1 << 32, -1 << 32, math.MaxInt, math.MinInt} {
		all = append(all, []impl.Term{term(coef, 0, 0, 0, 0, 0, 0, 0)}, []impl.Term{good, term(coef, 0, 0, 0, 0, 0, 0, 0)}, []impl.Term{term(coef, 2, 0, 0, 0, 0, 0, 0), good, one})
	}
	for _, exp := range []int{-1, 25, -24, 256, 1 << 32, math.MaxInt, math.MinInt} {
		for i := range 7 {
			bad := term(1, 0, 0, 0, 0, 0, 0, 0)
			bad.Exp[i] = exp
			all = append(all, []impl.Term{bad})
		}
	}
	return all
}

// placesOutside are no places of two variables.
func placesOutside() []int { return []int{-1, -2, 6, 7, 8, 64, 1 << 32, math.MaxInt, math.MinInt} }

// must returns a polynomial that is known to be found.
func must(t *testing.T) func(f []impl.Term, ok bool) []impl.Term {
	return func(f []impl.Term, ok bool) []impl.Term {
		t.Helper()
		if !ok {
			t.Fatal("a function failed that should return a polynomial")
		}
		return f
	}
}
