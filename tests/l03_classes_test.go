package tests

import (
	"math"
	"math/rand/v2"
	"slices"
	"testing"

	"loop.example/g03113/impl"
)

func TestTransitionOf(t *testing.T) {
	for s, want := range map[string]string{
		"21": "0 [0 1] [] true", "132": "1 [0 1 2] [[1 0 2]] true", "213": "0 [0 1 2] [] true", "312": "0 [1 0 2] [] true", "231": "1 [1 0 2] [] true", "321": "1 [2 0 1] [] true", "1432": "2 [0 3 1 2] [[1 3 0 2]] true",
		"2143": "2 [1 0 2 3] [[1 2 0 3] [2 0 1 3]] true", "1342": "2 [0 2 1 3] [[1 2 0 3]] true", "7654321": "5 [6 5 4 3 2 0 1] [] true", "1234576": "5 [0 1 2 3 4 5 6] [[0 1 2 3 5 4 6]] true", "2134567": "0 [0 1 2 3 4 5 6] [] true",
		"1243567": "2 [0 1 2 3 4 5 6] [[0 2 1 3 4 5 6]] true",
	} {
		is(t, "TransitionOf "+s, text(impl.TransitionOf(perm(s))), want)
	}
	for n := 1; n <= 7; n++ {
		is(t, text("TransitionOf the identity of", n), text(impl.TransitionOf(ascending(n))), "0 [] [] false")
	}
	for _, w := range somePerms() {
		if inversionsOf(w) == 0 {
			continue
		}
		r := len(w) - 2
		for w[r] < w[r+1] {
			r--
		}
		s := len(w) - 1
		for w[s] > w[r] {
			s--
		}
		v := exchanged(w, r, s)
		var others [][]int
		for q := range r {
			if u := exchanged(v, q, r); inversionsOf(u) == inversionsOf(v)+1 {
				others = append(others, u)
			}
		}
		slices.SortFunc(others, slices.Compare)
		is(t, text("TransitionOf", w), text(impl.TransitionOf(w)), text(r, v, others, true))
	}
}

func TestMonkProduct(t *testing.T) {
	for _, c := range []struct {
		perm string
		k    int
		want string
	}{
		{"1", 0, "1:21"}, {"12", 0, "1:21"}, {"12", 1, "1:132"}, {"123456", 0, "1:21"}, {"123456", 5, "1:1234576"}, {"21", 0, "1:312"}, {"21", 1, "1:231, 1:312"}, {"132", 0, "1:231, 1:312"}, {"132", 1, "1:1423, 1:231"}, {"132", 2, "1:1342, 1:1423"},
		{"321", 0, "1:4213"}, {"321", 1, "1:3412, 1:4213"}, {"321", 2, "1:3241, 1:3412, 1:4213"}, {"213", 0, "1:312"}, {"213", 2, "1:2143"}, {"654321", 0, "1:7543216"},
	} {
		got, ok := impl.MonkProduct(perm(c.perm), c.k)
		isTrue(t, text("MonkProduct of", c.perm, c.k), ok)
		is(t, text("MonkProduct of", c.perm, c.k), impl.FormatClasses(got), c.want)
	}
	for _, w := range append(somePerms(), permsOf(6)...) {
		for k := range len(w) {
			if len(w) < 7 {
				is(t, text("MonkProduct of", w, k), text(impl.MonkProduct(w, k)), text(monk(w, k), true))
			}
		}
		for _, k := range []int{-1, len(w), len(w) + 1, 7, math.MaxInt, math.MinInt} {
			is(t, text("MonkProduct of", w, k), text(impl.MonkProduct(w, k)), "[] false")
		}
	}
	for k := range 8 {
		is(t, text("MonkProduct of the identity of 7 at", k), text(impl.MonkProduct(ascending(7), k)), "[] false")
		is(t, text("MonkProduct of the longest of 7 at", k), text(impl.MonkProduct(impl.LongestPerm(7), k)), "[] false")
	}
}

// monk finds the permutations of one place more, one length more, that differ from
// w at just two places, of which one is at most k.
func monk(w []int, k int) []impl.Class {
	longer := append(slices.Clone(w), len(w))
	var l []impl.Class
	for a := 0; a <= k; a++ {
		for b := k + 1; b <= len(w); b++ {
			if u := exchanged(longer, a, b); inversionsOf(u) == inversionsOf(w)+1 {
				l = append(l, impl.Class{Perm: trimmed(u), Count: 1})
			}
		}
	}
	slices.SortFunc(l, func(a, b impl.Class) int { return slices.Compare(a.Perm, b.Perm) })
	return l
}

// TestMonkProductIsProduct: it is the product with the polynomial of the swap k.
func TestMonkProductIsProduct(t *testing.T) {
	for _, w := range somePerms() {
		for k := range len(w) {
			if len(w) == 7 {
				continue
			}
			swap := schubert(t, swapOf(len(w)+1, k))
			product := must(t)(impl.MulPolys(schubert(t, w), swap))
			classes, _ := impl.MonkProduct(w, k)
			is(t, text("the polynomial of MonkProduct of", w, k), text(impl.ClassesPoly(classes)), text(product, true))
			is(t, text("MulPerms of", w, "and a swap", k), text(impl.MulPerms(w, swapOf(len(w)+1, k))), text(classes, true))
			is(t, text("MulPerms of a swap", k, "and", w), text(impl.MulPerms(swapOf(len(w)+1, k), w)), text(classes, true))
		}
	}
}

func TestClassesOk(t *testing.T) {
	for _, l := range [][]impl.Class{
		nil, {}, sum("1:1"), sum("-1:1"), sum("1000000:1"), sum("-1000000:7654321"), sum("1:1, 1:132, 1:1342, 1:1423, 1:21, 1:2143, 1:231"), sum("3:1, -2:21"), sum("1:1234576, 1:132, 1:21, 5:7123456"),
		manyClasses(1), manyClasses(99), manyClasses(100), monomialClasses(100), allClassesFrom(4940),
	} {
		isTrue(t, brief("ClassesOk of", l), impl.ClassesOk(l))
	}
	for _, l := range notClasses() {
		isFalse(t, brief("ClassesOk of", l), impl.ClassesOk(l))
	}
	for _, w := range somePerms() {
		is(t, text("ClassesOk of", w), text(impl.ClassesOk([]impl.Class{{Perm: w, Count: 1}})), text(len(trimmed(w)) == len(w)))
	}
}

// allClassesFrom returns the trimmed permutations from the given one on, each with
// the Count -1.
func allClassesFrom(first int) []impl.Class {
	var l []impl.Class
	for _, w := range trimmedPerms(7)[first:] {
		l = append(l, impl.Class{Perm: w, Count: -1})
	}
	return l
}

// TestOrderOfClasses takes all pairs of permutations of at most 4: just one order
// of both is right.
func TestOrderOfClasses(t *testing.T) {
	for _, u := range trimmedPerms(4) {
		for _, v := range trimmedPerms(4) {
			is(t, text("ClassesOk of", u, v), text(impl.ClassesOk([]impl.Class{{Perm: u, Count: 1}, {Perm: v, Count: 1}})), text(slices.Compare(u, v) < 0))
		}
	}
}

func TestFormatClasses(t *testing.T) {
	is(t, "FormatClasses of nil", impl.FormatClasses(nil), "0")
	is(t, "FormatClasses of the empty list", impl.FormatClasses([]impl.Class{}), "0")
	for _, s := range []string{"1:1", "-1:1", "1000000:21", "-1000000:7654321", "1:132, -1:21", "2:1, 3:132, -4:1342, 50:7123456"} {
		is(t, "FormatClasses of "+s, impl.FormatClasses(sum(s)), s)
	}
	for _, l := range [][]impl.Class{manyClasses(100), allClassesFrom(4940)} {
		is(t, "FormatClasses of 100 classes", text(sum(impl.FormatClasses(l))), text(l))
	}
	for _, l := range notClasses() {
		is(t, brief("FormatClasses of", l), impl.FormatClasses(l), "")
	}
}

func TestClassesPoly(t *testing.T) {
	for s, want := range map[string]string{
		"7:1": "7:", "1:21": "1:1", "-2:132": "-2:0 1, -2:1", "1:132, -1:21": "1:0 1", "3:1, 2:132, 5:21": "2:0 1, 7:1, 3:", "1000000:7654321": "1000000:6 5 4 3 2 1", "1:1234576, -1:123465": "1:0 0 0 0 0 1",
	} {
		is(t, "ClassesPoly of "+s, impl.FormatPoly(must(t)(impl.ClassesPoly(sum(s)))), want)
	}
	is(t, "ClassesPoly of nothing", text(impl.ClassesPoly(nil)), "[] true")
	for _, l := range someSums() {
		total, _, _ := freeClasses(t, l)
		is(t, shortened(brief("ClassesPoly of", l)), text(impl.ClassesPoly(l)), total.want())
	}
	for _, l := range notClasses() {
		is(t, brief("ClassesPoly of", l), text(impl.ClassesPoly(l)), "[] false")
	}
}

// someSums returns sums of classes, among them some whose polynomials are beyond
// the limits.
func someSums() [][]impl.Class {
	all := [][]impl.Class{nil, sum("1:1"), sum("-5:7654321"), manyClasses(20), manyClasses(100), monomialClasses(100), allClassesFrom(4940), allClassesFrom(5000)}
	source := rand.New(rand.NewPCG(23, 29))
	for i := range 60 {
		perms := trimmedPerms(3 + i%5)
		source.Shuffle(len(perms), func(i, j int) { perms[i], perms[j] = perms[j], perms[i] })
		perms = perms[:1+source.IntN(5)]
		slices.SortFunc(perms, slices.Compare)
		var l []impl.Class
		for _, w := range perms {
			l = append(l, impl.Class{Perm: w, Count: 1 + source.IntN(9)})
			if source.IntN(2) == 0 {
				l[len(l)-1].Count *= -100000
			}
		}
		all = append(all, l)
	}
	return all
}

// TestSumsAreExpandedAgain: there is never more than one sum with a polynomial.
func TestSumsAreExpandedAgain(t *testing.T) {
	good, bad := 0, 0
	for _, l := range someSums() {
		f, ok := impl.ClassesPoly(l)
		if !ok {
			bad++
			continue
		}
		good++
		is(t, shortened(brief("ExpandPoly of the polynomial of", l)), text(impl.ExpandPoly(f)), text(l, true))
	}
	if good < 30 || bad < 5 {
		t.Errorf("%d sums within the limits, %d beyond", good, bad)
	}
	for i, w := range permsOf(7) {
		if i%5 == 0 {
			is(t, text("ExpandPoly of SchubertPoly of", w), text(impl.ExpandPoly(schubert(t, w))), text([]impl.Class{{Perm: trimmed(w), Count: 1}}, true))
		}
	}
}

func TestExpandPoly(t *testing.T) {
	for s, want := range map[string]string{
		"0": "0", "1:": "1:1", "-1000000:": "-1000000:1", "1:1": "1:21", "1:0 1": "1:132, -1:21", "1:0 0 1": "1:1243, -1:132", "1:0 0 0 0 0 1": "1:1234576, -1:123465", "1:6 5 4 3 2 1": "1:7654321", "1:0 1, 1:1": "1:132", "5:0 1, 7:1, 1:": "1:1, 5:132, 2:21",
		"1:1 1": "1:231", "1:2": "1:312", "1:0 2": "1:1423, -1:231, -1:312", "1:6": "1:7123456",
	} {
		is(t, "ExpandPoly of "+s, text(impl.ExpandPoly(poly(s))), text(sumOrNone(want), true))
	}
	for _, f := range append(somePolys(), manyTerms(3, 0, 1, 4), manyTerms(5, 1, 0, -2), manyTerms(7, 3, 2, 1), manyTerms(4, 5, 4, 1)) {
		l, ok := impl.ExpandPoly(f)
		isTrue(t, text("ExpandPoly of", f, "is a sum"), impl.ClassesOk(l))
		if ok {
			is(t, text("the polynomial of ExpandPoly of", f), text(impl.ClassesPoly(l)), text(f, true))
		} else {
			is(t, text("ExpandPoly of", f), text(l), "[]")
		}
		is(t, text("ExpandPoly of", f, "succeeds"), text(ok), text(withinStaircase(f)))
	}
}

func sumOrNone(s string) []impl.Class {
	if s == "0" {
		return nil
	}
	return sum(s)
}

// TestExpandPolyOfMonomials: those within the polynomial of the longest permutation
// have a sum, and no others.
func TestExpandPolyOfMonomials(t *testing.T) {
	top := []int{6, 5, 4, 3, 2, 1, 0}
	for i := range 7 {
		for _, others := range [][]int{make([]int, 7), {6, 5, 0, 0, 0, 0, 0}, {1, 1, 0, 0, 0, 0, 0}} {
			exp := slices.Clone(others)
			exp[i] = top[i]
			l, ok := impl.ExpandPoly(impl.MonomialPoly(exp))
			isTrue(t, text("ExpandPoly of a power", exp), ok)
			is(t, text("the polynomial of ExpandPoly of a power", exp), text(impl.ClassesPoly(l)), text(impl.MonomialPoly(exp), true))
			exp[i]++
			is(t, text("ExpandPoly of a greater power", exp), text(impl.ExpandPoly(impl.MonomialPoly(exp))), "[] false")
		}
	}
}

func TestNoSums(t *testing.T) {
	for _, s := range []string{
		"1:0 0 0 0 0 0 1", "1:7", "1:24", "1:0 6", "1:0 0 0 0 0 2", "1:0 0 0 0 0 1, 1:7", "1:0 1 1, 1:0 6", "1:0 1, 1:8, 1:1", "1:0 0 0 0 0 0 1, 1:0 0 0 0 0 1, 1:0 0 0 0 1, 1:0 0 0 1, 1:0 0 1, 1:0 1, 1:1", "-1:24 24 24 24 24 24 24", "1:7 5 4 3 2 1",
	} {
		is(t, "ExpandPoly of "+s, text(impl.ExpandPoly(poly(s))), "[] false")
	}
	for _, f := range notPolys() {
		is(t, shortened(brief("ExpandPoly of", f)), text(impl.ExpandPoly(f)), "[] false")
	}
}

func TestSumsOfMostClasses(t *testing.T) {
	for _, n := range []int{99, 100, 101, 102, 150, 429} {
		p := free{}
		for _, class := range monomialClasses(n) {
			p = p.plus(class.Count, freeOf(schubert(t, class.Perm)))
		}
		f := p.terms()
		is(t, text("the number of terms for", n, "classes"), text(len(f)), text(n))
		want := "[] false"
		if n <= 100 {
			want = text(monomialClasses(n), true)
			is(t, text("ClassesPoly of", n, "classes"), text(impl.ClassesPoly(monomialClasses(n))), text(f, true))
		}
		is(t, text("ExpandPoly of", n, "classes"), text(impl.ExpandPoly(f)), want)
	}
	is(t, "ExpandPoly of a term with more classes", text(impl.ExpandPoly(poly("1:1 2 0 3 2 1"))), "[] false")
	l, ok := impl.ExpandPoly(poly("1:0 5 2 0 2 1"))
	is(t, "ExpandPoly of a term with 85 classes", text(len(l), ok), "85 true")
}

func TestGreatestCounts(t *testing.T) {
	for s, want := range map[string]string{
		"1000000:0 1": "1000000:132, -1000000:21", "-1000000:0 1": "-1000000:132, 1000000:21", "1000000:0 1, -1000000:1": "", "-1000000:0 1, 1000000:1": "", "500000:0 1, -500000:1": "500000:132, -1000000:21", "500000:0 1, -500001:1": "",
		"-500000:0 1, 500000:1": "-500000:132, 1000000:21", "-500001:0 1, 500000:1": "", "1000000:0 1, 1000000:1": "1000000:132", "1000000:0 0 1, -1000000:0 1": "", "1000000:0 0 1, 1000000:0 1, 1000000:1": "1000000:1243",
	} {
		result := "[] false"
		if want != "" {
			result = text(sum(want), true)
			is(t, "ClassesPoly of "+want, text(impl.ClassesPoly(sum(want))), text(poly(s), true))
		}
		is(t, "ExpandPoly of "+s, text(impl.ExpandPoly(poly(s))), result)
	}
	is(t, "ClassesPoly with a coefficient of 2000000", text(impl.ClassesPoly(sum("1000000:1342, 1000000:1423"))), "[] false")
	is(t, "ClassesPoly with a coefficient of -1000001", text(impl.ClassesPoly(sum("-1000000:132, -1:21"))), "[] false")
}

// TestSumsHaveNoLimitsOnTheWay takes sums whose polynomials are within the limits,
// while parts of them are not.
func TestSumsHaveNoLimitsOnTheWay(t *testing.T) {
	great := sum("1000000:1342, 1000000:1423, -1000000:2143")
	total, _, coef := freeClasses(t, great)
	is(t, "the greatest coefficient on the way", text(coef), "2000000")
	is(t, "ClassesPoly with a coefficient of 2000000 on the way", text(impl.ClassesPoly(great)), total.want())
	is(t, "ExpandPoly of it", text(impl.ExpandPoly(total.terms())), text(great, true))
	long, ok := impl.ExpandPoly(longWay(t))
	isTrue(t, "ExpandPoly with many terms on the way", ok)
	total, terms, _ := freeClasses(t, long)
	isTrue(t, text("there are", terms, "terms on the way"), terms > 600)
	is(t, "ClassesPoly with many terms on the way", text(impl.ClassesPoly(long)), text(longWay(t), true))
	is(t, "the same, without limits", total.want(), text(longWay(t), true))
	// ExpandPoly itself takes the classes in another order.
	most := 0
	rest := freeOf(longWay(t))
	for f := rest.terms(); len(f) > 0; f = rest.terms() {
		rest = rest.plus(-f[0].Coef, freeOf(schubert(t, impl.PermOfCode(f[0].Exp))))
		most = max(most, len(rest.terms()))
	}
	isTrue(t, text("ExpandPoly has", most, "terms on the way"), most > 600)
}

// longWay is the sum of polynomials of five degrees, of which one takes many
// classes with more terms.
func longWay(t *testing.T) []impl.Term {
	f := poly("1:1 1 0 3 2 1")
	for _, s := range []string{"2176534", "1276534", "3176524", "1237546"} {
		f = must(t)(impl.AddPolys(f, 1, schubert(t, perm(s))))
	}
	return f
}

// withinStaircase reports whether all terms divide the polynomial of the longest
// permutation of 7: just sums of such terms are sums of Schubert polynomials of
// permutations of at most 7.
func withinStaircase(f []impl.Term) bool {
	for _, term := range f {
		for i, exp := range term.Exp {
			if exp > 6-i {
				return false
			}
		}
	}
	return true
}

func TestMulPerms(t *testing.T) {
	for _, c := range []struct{ u, v, want string }{
		{"1", "1", "1:1"}, {"1", "7654321", "1:7654321"}, {"21", "132", "1:231, 1:312"}, {"21", "21", "1:312"}, {"132", "132", "1:1423, 1:231"}, {"213", "1324567", "1:231, 1:312"}, {"1234567", "12", "1:1"}, {"21", "6543217", "1:7543216"},
		{"231", "231", "1:3412"}, {"1423", "1423", "1:162345, 1:25134, 1:3412"}, {"1342", "1342", "1:14523, 1:23514"}, {"1243", "1342", "1:13524, 1:2341"}, {"21345", "1423", "1:2413, 1:4123"}, {"123456", "654321", "1:654321"},
	} {
		is(t, text("MulPerms of", c.u, c.v), text(impl.MulPerms(perm(c.u), perm(c.v))), text(sum(c.want), true))
		is(t, text("MulPerms of", c.v, c.u), text(impl.MulPerms(perm(c.v), perm(c.u))), text(sum(c.want), true))
	}
}

// TestProductsAreExpandedAgain: the polynomial of MulPerms is the product.
func TestProductsAreExpandedAgain(t *testing.T) {
	perms := permsUpTo(4)
	for i, w := range somePerms() {
		if len(w) > 4 && i%3 == 0 {
			perms = append(perms, w)
		}
	}
	good, bad := 0, 0
	for _, u := range perms {
		for _, v := range perms {
			what := text("MulPerms of", u, v)
			l, ok := impl.MulPerms(u, v)
			product, isPoly := impl.MulPolys(schubert(t, u), schubert(t, v))
			is(t, what+" succeeds", text(ok), text(isPoly && withinStaircase(product)))
			if !ok {
				bad++
				is(t, what, text(l), "[]")
				continue
			}
			good++
			is(t, what+": its polynomial", text(impl.ClassesPoly(l)), text(product, true))
			for _, class := range l {
				isTrue(t, what+": a Count", class.Count > 0)
				is(t, what+": a length", text(inversionsOf(class.Perm)), text(inversionsOf(u)+inversionsOf(v)))
			}
		}
	}
	if good < 2000 || bad < 2000 {
		t.Errorf("%d products, and %d that fail", good, bad)
	}
}

// TestProductsOfThree: the product of classes is associative and has a one.
func TestProductsOfThree(t *testing.T) {
	times := func(l []impl.Class, w []int) []impl.Class {
		var total []impl.Term
		for _, class := range l {
			product, ok := impl.MulPerms(class.Perm, w)
			isTrue(t, text("MulPerms of", class.Perm, w), ok)
			total = must(t)(impl.AddPolys(total, class.Count, must(t)(impl.ClassesPoly(product))))
		}
		sum, ok := impl.ExpandPoly(total)
		isTrue(t, "ExpandPoly of a sum of products", ok)
		return sum
	}
	for _, u := range permsOf(3) {
		for _, v := range permsOf(3) {
			first, _ := impl.MulPerms(u, v)
			for _, w := range permsOf(3) {
				second, _ := impl.MulPerms(v, w)
				is(t, text("the product of", u, v, w), text(times(first, w)), text(times(second, u)))
			}
		}
	}
	for _, w := range somePerms() {
		is(t, text("MulPerms of the identity and", w), text(impl.MulPerms([]int{0}, w)), text([]impl.Class{{Perm: trimmed(w), Count: 1}}, true))
	}
}

func TestMulPermsFails(t *testing.T) {
	for _, c := range []struct{ u, v string }{
		{"7654321", "21"}, {"7123456", "21"}, {"1234576", "1234576"}, {"7654321", "7654321"}, {"2345671", "2345671"}, {"654321", "654321"}, {"1327654", "1327654"}, {"1324567", "1765432"},
	} {
		is(t, text("MulPerms of", c.u, c.v), text(impl.MulPerms(perm(c.u), perm(c.v))), "[] false")
		is(t, text("MulPerms of", c.v, c.u), text(impl.MulPerms(perm(c.v), perm(c.u))), "[] false")
	}
	_, ok := impl.MulPolys(schubert(t, perm("1327654")), schubert(t, perm("1327654")))
	isFalse(t, "a product of few enough terms", ok)
}

func TestProductsOfMostClasses(t *testing.T) {
	l, ok := impl.MulPerms(perm("3251674"), perm("2516437"))
	is(t, "a product of 100 classes", text(len(l), ok, impl.ClassesOk(l)), "100 true true")
	u, v := perm("3421675"), perm("2156437")
	rest := freeOf(must(t)(impl.MulPolys(schubert(t, u), schubert(t, v))))
	count := 0
	for f := rest.terms(); len(f) > 0; f = rest.terms() {
		count++
		rest = rest.plus(-f[0].Coef, freeOf(schubert(t, impl.PermOfCode(f[0].Exp))))
	}
	isTrue(t, text("a product of", count, "classes"), count > 100)
	is(t, "MulPerms with more classes", text(impl.MulPerms(u, v)), "[] false")
}
