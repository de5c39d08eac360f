package tests

import (
	"math"
	"slices"
	"testing"

	"loop.example/g03113/impl"
)

func TestLimitsOfSchubert(t *testing.T) {
	is(t, "MaxDreams, MaxClasses, MaxShift", text(impl.MaxDreams, impl.MaxClasses, impl.MaxShift), "400 100 9")
	is(t, "Class", text(impl.Class{Perm: []int{1, 0}, Count: 3}), "{[1 0] 3}")
}

func TestSchubertPolyOfFew(t *testing.T) {
	for s, want := range map[string]string{
		"1": "1:", "12": "1:", "1234567": "1:", "21": "1:1", "213": "1:1", "2134567": "1:1", "132": "1:0 1, 1:1", "231": "1:1 1", "312": "1:2", "321": "1:2 1", "1432": "1:0 2 1, 1:1 1 1, 1:2 0 1, 1:1 2, 1:2 1",
		"1243": "1:0 0 1, 1:0 1, 1:1", "2143": "1:1 0 1, 1:1 1, 1:2", "1342": "1:0 1 1, 1:1 0 1, 1:1 1", "1423": "1:0 2, 1:1 1, 1:2", "54321": "1:4 3 2 1", "654321": "1:5 4 3 2 1", "7654321": "1:6 5 4 3 2 1",
		"7123456": "1:6", "2345671": "1:1 1 1 1 1 1", "1234576": "1:0 0 0 0 0 1, 1:0 0 0 0 1, 1:0 0 0 1, 1:0 0 1, 1:0 1, 1:1",
	} {
		is(t, "SchubertPoly of "+s, impl.FormatPoly(schubert(t, perm(s))), want)
	}
}

// TestSchubertPolyIsSumOverDreams takes the dreams from the definition alone.
func TestSchubertPolyIsSumOverDreams(t *testing.T) {
	for n := 1; n <= 6; n++ {
		dreams := reducedDreams(n)
		for _, w := range permsOf(n) {
			is(t, text("SchubertPoly of", w), text(impl.SchubertPoly(w)), sumOfWeights(dreams[text(w)], make([]int, 7)).want())
		}
	}
}

// TestSchubertPolyByDividedDifferences goes from the longest permutation down to
// all others, for all places.
func TestSchubertPolyByDividedDifferences(t *testing.T) {
	for n := 1; n <= 6; n++ {
		exp := ascending(n)
		slices.Reverse(exp)
		is(t, text("SchubertPoly of the longest of", n), text(impl.SchubertPoly(impl.LongestPerm(n))), text(impl.MonomialPoly(exp), true))
		for _, w := range permsOf(n) {
			for k := range n - 1 {
				if w[k] < w[k+1] {
					is(t, text("SchubertPoly of", w, "at", k), text(impl.SchubertPoly(w)), text(impl.DividedDifference(schubert(t, exchanged(w, k, k+1)), k)))
				}
			}
		}
	}
}

// TestSchubertPolyOfSeven needs only one place for each permutation, but all
// permutations: so each of their polynomials is right if the longest one's is.
func TestSchubertPolyOfSeven(t *testing.T) {
	is(t, "SchubertPoly of the longest of 7", text(impl.SchubertPoly(impl.LongestPerm(7))), text(poly("1:6 5 4 3 2 1"), true))
	most := 0
	for i, w := range permsOf(7) {
		f := schubert(t, w)
		most = max(most, len(f))
		var places []int
		for k := range 6 {
			if w[k] < w[k+1] {
				places = append(places, k)
			}
		}
		if len(places) > 0 {
			k := places[i%len(places)]
			want := must(t)(impl.DividedDifference(schubert(t, exchanged(w, k, k+1)), k))
			isTrue(t, text("SchubertPoly of", w, "is as at", k), impl.PolyOk(f) && impl.FormatPoly(f) == impl.FormatPoly(want))
		}
	}
	is(t, "the greatest number of terms", text(most), "347")
}

func TestSchubertPolyByOtherFunctions(t *testing.T) {
	for _, w := range somePerms() {
		f := schubert(t, w)
		what := text("SchubertPoly of", w)
		is(t, what+", trimmed", text(schubert(t, trimmed(w))), text(f))
		is(t, what+": its first term", text(f[0].Exp, f[0].Coef), text(append(impl.CodeOf(w), make([]int, 7-len(w))...), 1))
		is(t, what+": its degree", text(impl.DegreeOf(f), len(impl.PartOfDegree(f, impl.DegreeOf(f)))), text(inversionsOf(w), len(f)))
		for k := range len(w) - 1 {
			isTrue(t, text(what, "is symmetric at", k, "or has a descent"), impl.IsSymmetricAt(f, k) != (w[k] > w[k+1]))
		}
		for n := len(w); n <= 7; n++ {
			is(t, text(what, "within", n), text(schubert(t, impl.EmbedPerm(w, n))), text(f))
		}
	}
}

// TestTransitions: the polynomial of w is xr times that of v, plus those of the
// others.
func TestTransitions(t *testing.T) {
	for _, w := range somePerms() {
		r, v, others, ok := impl.TransitionOf(w)
		if !ok {
			continue
		}
		total := must(t)(impl.MulPolys(variable(r).terms(), schubert(t, v)))
		for _, u := range others {
			total = must(t)(impl.AddPolys(total, 1, schubert(t, u)))
		}
		is(t, text("by transition", w), text(impl.SchubertPoly(w)), text(total, true))
	}
}

func TestSchubertFunctionsOfNoPermutation(t *testing.T) {
	for _, w := range notPerms() {
		is(t, brief("SchubertPoly of", w), text(impl.SchubertPoly(w)), "[] false")
		is(t, brief("GrothendieckPoly of", w), text(impl.GrothendieckPoly(w)), "[] false")
		is(t, brief("PipeDreams of", w), text(impl.PipeDreams(w)), "[] false")
		is(t, brief("BottomDream of", w), text(impl.BottomDream(w)), "[]")
		is(t, brief("TransitionOf", w), text(impl.TransitionOf(w)), "0 [] [] false")
		for _, y := range [][]int{nil, make([]int, 1), make([]int, 5), make([]int, len(w))} {
			is(t, brief("DoubleSchubert of", w, y), text(impl.DoubleSchubert(w, y)), "[] false")
		}
		for _, k := range []int{-1, 0, 1, len(w) - 1} {
			is(t, brief("MonkProduct of", w, k), text(impl.MonkProduct(w, k)), "[] false")
		}
		for _, v := range append(notPerms(), []int{0}, []int{1, 0}) {
			is(t, brief("MulPerms of", w, v), text(impl.MulPerms(w, v)), "[] false")
			is(t, brief("MulPerms of", v, w), text(impl.MulPerms(v, w)), "[] false")
		}
	}
}

// someShifts returns lists of n numbers from -MaxShift to MaxShift.
func someShifts(n int) [][]int {
	return [][]int{make([]int, n), repeated(9, n), repeated(-9, n), ascending(n), []int{5, -2, 7, 0, -9}[:n], []int{-1, 3, 3, 9, 1}[:n], []int{0, 0, 0, 0, 9}[:n], []int{9, 0, 0, 0, 0}[:n]}
}

// TestDoubleSchubertIsSumOverDreams: a cross (i, j) stands for xi - y[j].
func TestDoubleSchubertIsSumOverDreams(t *testing.T) {
	good, bad := 0, 0
	for n := 1; n <= 5; n++ {
		dreams := reducedDreams(n)
		for _, w := range permsOf(n) {
			for _, y := range someShifts(n) {
				want := sumOfWeights(dreams[text(w)], y).want()
				is(t, text("DoubleSchubert of", w, y), text(impl.DoubleSchubert(w, y)), want)
				if want == "[] false" {
					bad++
				} else {
					good++
				}
			}
		}
	}
	if good < 500 || bad < 20 {
		t.Errorf("%d results within the limits, %d beyond", good, bad)
	}
}

func TestDoubleSchubertOfFew(t *testing.T) {
	for _, c := range []struct {
		perm string
		y    []int
		want string
	}{
		{"1", []int{9}, "1:"}, {"12", []int{-9, 9}, "1:"}, {"21", []int{5, 0}, "1:1, -5:"}, {"21", []int{-5, 7}, "1:1, 5:"}, {"132", []int{2, 3, 4}, "1:0 1, 1:1, -5:"}, {"312", []int{2, 3, 4}, "1:2, -5:1, 6:"},
		{"231", []int{2, 3, 4}, "1:1 1, -2:0 1, -2:1, 4:"}, {"321", []int{1, -1, 9}, "1:2 1, -1:0 1, -1:2, 1:"}, {"12345", []int{1, 2, 3, 4, 5}, "1:"},
	} {
		is(t, text("DoubleSchubert of", c.perm, c.y), impl.FormatPoly(must(t)(impl.DoubleSchubert(perm(c.perm), c.y))), c.want)
	}
}

func TestDoubleSchubertByOtherFunctions(t *testing.T) {
	for _, w := range permsUpTo(5) {
		is(t, text("DoubleSchubert with zeros of", w), text(impl.DoubleSchubert(w, make([]int, len(w)))), text(impl.SchubertPoly(w)))
		for _, y := range someShifts(len(w)) {
			f, ok := impl.DoubleSchubert(w, y)
			is(t, text("DoubleSchubert, trimmed, of", w, y), text(impl.DoubleSchubert(trimmed(w), y[:len(trimmed(w))])), text(f, ok))
			for k := range len(w) - 1 {
				up, isPoly := impl.DoubleSchubert(exchanged(w, k, k+1), y)
				if w[k] < w[k+1] && isPoly {
					is(t, text("DoubleSchubert of", w, y, "at", k), text(f, ok), text(impl.DividedDifference(up, k)))
				}
			}
		}
	}
}

// TestDoubleSchubertHasZeros: with y[v[i]] in place of xi, the polynomial of w is 0
// unless w is below v; with y[w[i]] it is the product over the inversions.
func TestDoubleSchubertHasZeros(t *testing.T) {
	for n := 1; n <= 4; n++ {
		y := []int{4, -3, 7, 1}[:n]
		for _, w := range permsOf(n) {
			f := must(t)(impl.DoubleSchubert(w, y))
			for _, v := range permsOf(n) {
				values := make([]int, 7)
				for i, x := range v {
					values[i] = y[x]
				}
				value := impl.EvaluatePoly(f, values)
				is(t, text("the value of", w, "at", v, "is 0"), text(value == 0), text(!impl.IsBelowPerm(w, v)))
				if slices.Equal(v, w) {
					is(t, text("the value of", w, "at itself"), text(value), text(impl.EvaluatePoly(inversionProduct(w, y).terms(), values)))
				}
			}
		}
	}
}

// inversionProduct is the product of y[w[i]] - y[w[j]] over the inversions of w.
func inversionProduct(w []int, y []int) free {
	product := one()
	for j := range w {
		for i := range j {
			if w[i] > w[j] {
				product = free{[7]int{}: y[w[i]] - y[w[j]]}.times(product)
			}
		}
	}
	return product
}

func TestDoubleSchubertAtTheLimits(t *testing.T) {
	for n := 1; n <= 5; n++ {
		for i := range n {
			for _, shift := range []int{9, -9} {
				y := make([]int, n)
				y[i] = shift
				is(t, text("DoubleSchubert with", y), text(impl.DoubleSchubert(ascending(n), y)), text(poly("1:"), true))
			}
			for _, shift := range []int{10, -10, 1 << 32, math.MaxInt, math.MinInt} {
				y := make([]int, n)
				y[i] = shift
				is(t, text("DoubleSchubert with", y), text(impl.DoubleSchubert(ascending(n), y)), "[] false")
				is(t, text("DoubleSchubert of the longest with", y), text(impl.DoubleSchubert(impl.LongestPerm(n), y)), "[] false")
			}
		}
		for _, y := range [][]int{nil, make([]int, n-1), make([]int, n+1), make([]int, 7), make([]int, 100000)} {
			is(t, brief("DoubleSchubert of", n, "with", y), text(impl.DoubleSchubert(ascending(n), y)), "[] false")
		}
	}
	for n := 6; n <= 7; n++ {
		for _, w := range [][]int{ascending(n), impl.LongestPerm(n)} {
			for _, y := range [][]int{make([]int, n), make([]int, 5), make([]int, 1)} {
				is(t, text("DoubleSchubert of", w, y), text(impl.DoubleSchubert(w, y)), "[] false")
			}
		}
	}
	for want, y := range map[int][]int{1000000: {5, -4, 5, -1, 9}, -1000000: {5, 4, 5, -1, -9}} {
		f := must(t)(impl.DoubleSchubert(perm("54321"), y))
		is(t, text("the last coefficient with", y), text(f[len(f)-1]), text(term(want, make([]int, 7)...)))
		is(t, text("DoubleSchubert with", y), text(f, true), weightOf(staircase(5), y).want())
	}
	is(t, "a coefficient of 1000188", text(impl.DoubleSchubert(perm("54321"), []int{3, 7, 6, -1, 0})), "[] false")
	is(t, "a coefficient of 9 to the power of 10", text(impl.DoubleSchubert(perm("54321"), repeated(9, 5))), "[] false")
}

// TestGrothendieckPolyIsSumOverAllDreams: those with more crosses than inversions
// go in with signs.
func TestGrothendieckPolyIsSumOverAllDreams(t *testing.T) {
	for n := 1; n <= 5; n++ {
		want := map[string]free{}
		for _, dream := range allDreams(n) {
			w := productOfWord(n, wordOf(n, dream), true)
			sign := 1 - 2*((len(dream)-inversionsOf(w))%2)
			want[text(w)] = want[text(w)].plus(sign, weightOf(dream, make([]int, n)))
		}
		for _, w := range permsOf(n) {
			is(t, text("GrothendieckPoly of", w), text(impl.GrothendieckPoly(w)), want[text(w)].want())
		}
	}
}

func TestGrothendieckPolyByOtherFunctions(t *testing.T) {
	is(t, "GrothendieckPoly of 132", impl.FormatPoly(must(t)(impl.GrothendieckPoly(perm("132")))), "-1:1 1, 1:0 1, 1:1")
	for _, w := range permsUpTo(5) {
		f := must(t)(impl.GrothendieckPoly(w))
		what := text("GrothendieckPoly of", w)
		is(t, what+": its least part", text(impl.PartOfDegree(f, inversionsOf(w)), true), text(impl.SchubertPoly(w)))
		is(t, what+", trimmed", text(impl.GrothendieckPoly(trimmed(w))), text(f, true))
		is(t, what+" with 1 for all variables", text(impl.EvaluatePoly(f, repeated(1, 7))), "1")
		for k := range len(w) - 1 {
			if w[k] < w[k+1] {
				up := must(t)(impl.GrothendieckPoly(exchanged(w, k, k+1)))
				is(t, text(what, "at", k), text(f, true), text(impl.IsobaricOf(up, k)))
			}
		}
		if len(w) == 5 {
			for n := 6; n <= 7; n++ {
				is(t, text(what, "within", n), text(impl.GrothendieckPoly(impl.EmbedPerm(w, n))), "[] false")
			}
		}
	}
	for n := 1; n <= 7; n++ {
		want := "[] false"
		if n <= 5 {
			want = text(impl.SchubertPoly(impl.LongestPerm(n)))
		}
		is(t, text("GrothendieckPoly of the longest of", n), text(impl.GrothendieckPoly(impl.LongestPerm(n))), want)
	}
}

// keyLists returns all lists of at most 4 numbers from 0 to 4, and some of 5.
func keyLists() [][]int {
	var all [][]int
	for length := 1; length <= 4; length++ {
		all = append(all, wordsOf(5, length)...)
	}
	long := wordsOf(5, 5)
	for i := 0; i < len(long); i += 11 {
		all = append(all, long[i])
	}
	return append(all, ascending(5), repeated(4, 5), []int{0, 0, 4, 4, 2}, []int{0, 0, 2, 4, 4}, []int{0, 1, 3, 4, 4})
}

func TestKeyPolyIsAsDefined(t *testing.T) {
	for _, exp := range keyLists() {
		f, ok := impl.KeyPoly(exp)
		isTrue(t, text("KeyPoly of", exp), ok)
		falls := true
		for k := range len(exp) - 1 {
			if exp[k] < exp[k+1] {
				falls = false
				up := must(t)(impl.KeyPoly(exchanged(exp, k, k+1)))
				is(t, text("KeyPoly of", exp, "at", k), text(f, ok), text(impl.DemazureOf(up, k)))
			} else {
				isTrue(t, text("KeyPoly of", exp, "is not symmetric at", k), exp[k] == exp[k+1] || !impl.IsSymmetricAt(f, k))
			}
		}
		if falls {
			is(t, text("KeyPoly of", exp), text(f, ok), text(impl.MonomialPoly(exp), true))
		}
		is(t, text("KeyPoly of", exp, "and zeros"), text(impl.KeyPoly(append(slices.Clone(exp), make([]int, 5-len(exp))...))), text(f, ok))
		is(t, text("the coefficient of", exp), text(impl.CoefficientOf(f, append(slices.Clone(exp), make([]int, 7-len(exp))...))), "1")
	}
}

// kohnert is the sum over all diagrams that come of rows of exp[i] cells, when the
// last cell of a row goes up to the first free place of its column, again and again.
func kohnert(exp []int) free {
	var first [5][4]bool
	for i, count := range exp {
		for j := range count {
			first[i][j] = true
		}
	}
	found := [][5][4]bool{first}
	known := map[[5][4]bool]bool{first: true}
	total := free{}
	for i := 0; i < len(found); i++ {
		counts := make([]int, 5)
		for row, line := range found[i] {
			last := -1
			for col, filled := range line {
				if filled {
					counts[row]++
					last = col
				}
			}
			goal := row - 1
			for last >= 0 && goal >= 0 && found[i][goal][last] {
				goal--
			}
			if last < 0 || goal < 0 {
				continue
			}
			next := found[i]
			next[row][last], next[goal][last] = false, true
			if !known[next] {
				known[next] = true
				found = append(found, next)
			}
		}
		total = total.plus(1, monomialOf(counts))
	}
	return total
}

func TestKeyPolyByMovesOfCells(t *testing.T) {
	is(t, "KeyPoly of 0 1", impl.FormatPoly(must(t)(impl.KeyPoly([]int{0, 1}))), "1:0 1, 1:1")
	is(t, "KeyPoly of 1 0 2", impl.FormatPoly(must(t)(impl.KeyPoly([]int{1, 0, 2}))), "1:1 0 2, 1:1 1 1, 1:2 0 1, 1:1 2, 1:2 1")
	for i, exp := range keyLists() {
		if len(exp) < 4 || i%5 == 0 {
			is(t, text("KeyPoly of", exp), text(impl.KeyPoly(exp)), kohnert(exp).want())
		}
	}
}

// TestKeyPolyOfCodes: the Schubert polynomial of a vexillary permutation is the
// key polynomial of its code.
func TestKeyPolyOfCodes(t *testing.T) {
	for _, w := range permsUpTo(5) {
		is(t, text("KeyPoly of the code of", w, "is SchubertPoly"), text(text(impl.KeyPoly(impl.CodeOf(w))) == text(impl.SchubertPoly(w))), text(impl.IsVexillary(w)))
	}
}

func TestKeyPolyAtTheLimits(t *testing.T) {
	for n := 1; n <= 5; n++ {
		is(t, text("KeyPoly of zeros", n), text(impl.KeyPoly(make([]int, n))), text(poly("1:"), true))
		is(t, text("KeyPoly of fours", n), text(impl.KeyPoly(repeated(4, n))), text(impl.MonomialPoly(repeated(4, n)), true))
		for i := range n {
			for _, beyond := range []int{5, -1, 6, 24, 25, 1 << 32, math.MaxInt, math.MinInt} {
				exp := make([]int, n)
				exp[i] = beyond
				is(t, text("KeyPoly of", exp), text(impl.KeyPoly(exp)), "[] false")
			}
		}
	}
	for _, exp := range [][]int{nil, {}, make([]int, 6), {1, 0, 0, 0, 0, 0}, {0, 0, 0, 0, 0, 1}, make([]int, 7), make([]int, 8), make([]int, 100000)} {
		is(t, brief("KeyPoly of", exp), text(impl.KeyPoly(exp)), "[] false")
	}
}
