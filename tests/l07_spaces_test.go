package tests

import (
	"math"
	"math/rand/v2"
	"slices"
	"testing"

	"loop.example/g03113/impl"
)

func TestSpanOfFew(t *testing.T) {
	for _, c := range []struct {
		p       int
		m, want string
	}{
		{3, "1 2, 2 1", "1 2"}, {2, "1 1 0, 0 1 1, 1 0 1", "1 0 1, 0 1 1"}, {5, "0 2 4, 0 1 2, 3 0 1", "1 0 2, 0 1 2"}, {7, "0 0 3", "0 0 1"}, {3, "2 2 2, 1 1 1", "1 1 1"}, {2, "0 1, 1 0", "1 0, 0 1"}, {7, "3 5", "1 4"}, {5, "0 0, 0 3, 0 4", "0 1"}, {3, "1 1 1, 0 1 1, 0 0 1", "1 0 0, 0 1 0, 0 0 1"}, {2, "0 0 1 1, 0 0 0 0, 1 1 1 1", "1 1 0 0, 0 0 1 1"},
	} {
		isMatrix(t, text("SpanOf of", c.m, "modulo", c.p), impl.SpanOf(matrix(c.p, c.m)), matrix(c.p, c.want))
	}
	for _, p := range primes() {
		for cols := 1; cols <= 7; cols++ {
			for count := range 8 {
				isMatrix(t, text("SpanOf of", count, "rows of zeros"), impl.SpanOf(zeros(p, count, cols)), noRows(p, cols))
			}
			unit := onesAt(p, cols, ascending(cols))
			isMatrix(t, text("SpanOf of", unit), impl.SpanOf(unit), unit)
			isMatrix(t, text("SpanOf of", unit, "turned round"), impl.SpanOf(onesAt(p, cols, reversed(ascending(cols)))), unit)
			same := repeated(p-1, 7*cols)
			isMatrix(t, text("SpanOf of a row, seven times"), impl.SpanOf(impl.Matrix{P: p, Rows: 7, Cols: cols, Data: same}), matrixOfRows(p, cols, [][]int{repeated(1, cols)}))
		}
	}
}

// checkSpan asks of a span to be reduced and to have the same sums.
func checkSpan(t *testing.T, m impl.Matrix) {
	t.Helper()
	what := text("SpanOf of", m)
	span := impl.SpanOf(m)
	isTrue(t, text(what, "is reduced:", span), impl.MatrixOk(span) && isReduced(span) && impl.IsSpace(span))
	isTrue(t, text(what, "has the same sums:", span), span.P == m.P && span.Cols == m.Cols && sumsOf(span).same(sumsOf(m)))
	is(t, what+", its rows", text(span.Rows), text(impl.RankOf(m)))
	isMatrix(t, what+", twice", impl.SpanOf(span), span)
	is(t, text("IsSpace of", m), text(impl.IsSpace(m)), text(isReduced(m)))
	if isReduced(m) {
		isMatrix(t, what, span, m)
	}
}

func TestSpansHaveTheSameSums(t *testing.T) {
	for _, m := range slices.Concat(allMatrices(2, 3, 3), allMatrices(2, 4, 2), allMatrices(2, 2, 4), allMatrices(3, 2, 3), allMatrices(3, 3, 2), allMatrices(5, 2, 2), allMatrices(7, 2, 2), allMatrices(7, 1, 3), allMatrices(7, 3, 1)) {
		checkSpan(t, m)
	}
	source := rand.New(rand.NewPCG(7, 5))
	for _, size := range smallSizes() {
		for range 8 {
			checkSpan(t, randomMatrix(source, size.p, source.IntN(8), size.n))
		}
	}
}

// TestSpansOfLargeSizes: what is done to rows does not change the span of rows that are
// independent, and none of it is lost by a row that repeats.
func TestSpansOfLargeSizes(t *testing.T) {
	source := rand.New(rand.NewPCG(7, 6))
	for i := range 120 {
		p, k := primes()[i%4], 1+i%6
		m := randomReduced(source, p, k, 7)
		what := text("SpanOf of what comes of", m)
		moved := timesMatrix(randomFlag(source, p, k), m)
		isMatrix(t, what, impl.SpanOf(moved), m)
		isMatrix(t, what+", rows exchanged", impl.SpanOf(matrixOfRows(p, 7, reversedRows(rowsOf(moved)))), m)
		isMatrix(t, what+" and a row once more", impl.SpanOf(stacked(moved, firstRows(moved, 1))), m)
		isMatrix(t, what+" behind zeros", impl.SpanOf(stacked(zeros(p, 1, 7), moved)), m)
		is(t, what+", IsSpace", text(impl.IsSpace(m), impl.IsSpace(moved), impl.RankOf(moved)), text(true, isReduced(moved), k))
		checkChanged(t, m)
	}
}

func reversedRows(l [][]int) [][]int {
	slices.Reverse(l)
	return l
}

// randomReduced returns a matrix of k rows as IsSpace asks for.
func randomReduced(source *rand.Rand, p int, k int, n int) impl.Matrix {
	columns := source.Perm(n)[:k]
	slices.Sort(columns)
	m := onesAt(p, n, columns)
	for i, first := range columns {
		for j := first + 1; j < n; j++ {
			if !slices.Contains(columns, j) {
				m.Data[i*n+j] = source.IntN(p)
			}
		}
	}
	return m
}

// checkChanged puts another number at each place.
func checkChanged(t *testing.T, m impl.Matrix) {
	t.Helper()
	for i, x := range m.Data {
		changed := impl.Matrix{P: m.P, Rows: m.Rows, Cols: m.Cols, Data: slices.Clone(m.Data)}
		changed.Data[i] = (x + 1) % m.P
		is(t, text("IsSpace of", changed), text(impl.IsSpace(changed)), text(isReduced(changed)))
	}
}

func TestIsSpaceOfFew(t *testing.T) {
	for _, c := range []struct {
		p    int
		m    string
		want bool
	}{
		{2, "1", true}, {2, "0", false}, {3, "2", false}, {3, "1 2", true}, {3, "0 1", true}, {3, "0 2", false}, {3, "2 0", false}, {2, "1 0, 0 1", true}, {2, "0 1, 1 0", false}, {2, "1 1, 0 1", false}, {2, "1 0, 1 1", false}, {2, "1 0, 0 0", false}, {2, "0 0, 1 0", false}, {2, "1 0, 1 0", false}, {2, "1, 0", false}, {2, "1, 1", false}, {7, "1 0 6, 0 1 5", true}, {7, "1 6 0, 0 0 1", true}, {7, "1 6 1, 0 0 1", false}, {7, "0 1 3 0, 0 0 0 1", true},
	} {
		is(t, text("IsSpace of", c.m, "modulo", c.p), text(impl.IsSpace(matrix(c.p, c.m))), text(c.want))
	}
	for _, p := range primes() {
		for cols := 1; cols <= 7; cols++ {
			isTrue(t, text("IsSpace of no rows of", cols), impl.IsSpace(noRows(p, cols)))
			isFalse(t, text("IsSpace of a row of zeros of", cols), impl.IsSpace(zeros(p, 1, cols)))
		}
	}
}

func TestSumAndMeetOfFew(t *testing.T) {
	for _, c := range []struct {
		p               int
		a, b, sum, meet string
	}{
		{2, "1 0 0, 0 1 0", "0 1 0, 0 0 1", "1 0 0, 0 1 0, 0 0 1", "0 1 0"}, {3, "1 0 1, 0 1 1", "1 0 0, 0 1 2", "1 0 0, 0 1 0, 0 0 1", "1 1 2"}, {7, "1 2 3", "1 2 3", "1 2 3", "1 2 3"}, {5, "1 0 2 1, 0 1 0 3", "1 0 2 1, 0 1 0 3", "1 0 2 1, 0 1 0 3", "1 0 2 1, 0 1 0 3"}, {3, "1 1 0 0", "1 1 0 0, 0 0 1 2", "1 1 0 0, 0 0 1 2", "1 1 0 0"},
		{2, "1 0 1 0, 0 1 0 1", "1 0 0 1, 0 1 1 0", "1 0 0 1, 0 1 0 1, 0 0 1 1", "1 1 1 1"},
	} {
		sum, one := impl.SumSpaces(matrix(c.p, c.a), matrix(c.p, c.b))
		meet, two := impl.MeetSpaces(matrix(c.p, c.a), matrix(c.p, c.b))
		is(t, text("SumSpaces, MeetSpaces of", c.a, "and", c.b, "modulo", c.p), text(sum, one, meet, two), text(matrix(c.p, c.sum), true, matrix(c.p, c.meet), true))
	}
	for _, p := range primes() {
		nothing, all := noRows(p, 4), onesAt(p, 4, ascending(4))
		for _, m := range []impl.Matrix{nothing, all, matrix(p, "1 0 1 1, 0 1 0 1"), matrix(p, "0 0 0 1")} {
			is(t, text("SumSpaces of", m, "and no rows"), text(impl.SumSpaces(m, nothing)), text(m, true))
			is(t, text("SumSpaces of", m, "and all"), text(impl.SumSpaces(all, m)), text(all, true))
			is(t, text("MeetSpaces of", m, "and no rows"), text(impl.MeetSpaces(m, nothing)), text(nothing, true))
			is(t, text("MeetSpaces of", m, "and all"), text(impl.MeetSpaces(all, m)), text(m, true))
		}
		is(t, "MeetSpaces of two that have nothing in common", text(impl.MeetSpaces(matrix(p, "1 0 0 1"), matrix(p, "1 0 0 0, 0 1 0 0"))), text(nothing, true))
	}
}

// checkPair holds the sum and what is common of two spaces against their sums of rows.
func checkPair(t *testing.T, a impl.Matrix, b impl.Matrix) {
	t.Helper()
	sum, one := impl.SumSpaces(a, b)
	meet, two := impl.MeetSpaces(a, b)
	if !one || !two || !isReduced(sum) || !isReduced(meet) || sum.P != a.P || meet.P != a.P || sum.Cols != a.Cols || meet.Cols != a.Cols {
		t.Errorf("SumSpaces, MeetSpaces of %v, %v are no spaces: %v, %v", a, b, sum, meet)
		return
	}
	is(t, text("dimensions of SumSpaces and of MeetSpaces of", a, b), text(sum.Rows+meet.Rows), text(a.Rows+b.Rows))
	isTrue(t, text("MeetSpaces of", a, b, "has what is common:", meet), sumsOf(meet).same(sumsOf(a).both(sumsOf(b))))
	isTrue(t, text("SumSpaces of", a, b, "has all sums:", sum), sumsOf(sum).same(sumsOf(stacked(a, b))))
}

func TestSumAndMeet(t *testing.T) {
	for _, size := range []struct{ p, n int }{{2, 1}, {2, 2}, {2, 3}, {3, 2}, {3, 3}, {5, 2}, {7, 2}} {
		var all []impl.Matrix
		for k := range size.n + 1 {
			all = append(all, allSpaces(size.p, k, size.n)...)
		}
		for _, a := range all {
			for _, b := range all {
				checkPair(t, a, b)
			}
		}
	}
	source := rand.New(rand.NewPCG(7, 7))
	for _, size := range smallSizes() {
		for range 12 {
			checkPair(t, randomReduced(source, size.p, source.IntN(size.n+1), size.n), randomReduced(source, size.p, source.IntN(size.n+1), size.n))
		}
	}
}

// TestSumAndMeetOfLargeSizes takes spaces made of rows of one flag: common is what is made
// of the rows that both take.
func TestSumAndMeetOfLargeSizes(t *testing.T) {
	source := rand.New(rand.NewPCG(7, 8))
	for i := range 160 {
		p, n := primes()[i%4], 5+i%3
		var a, b, either, both [][]int
		for _, row := range rowsOf(randomFlag(source, p, n)) {
			takes := source.IntN(4)
			if takes%2 == 1 {
				a = append(a, row)
			}
			if takes >= 2 {
				b = append(b, row)
			}
			if takes > 0 {
				either = append(either, row)
			}
			if takes == 3 {
				both = append(both, row)
			}
		}
		span := func(l [][]int) impl.Matrix { return impl.SpanOf(matrixOfRows(p, n, l)) }
		is(t, text("SumSpaces of", span(a), span(b)), text(impl.SumSpaces(span(a), span(b))), text(span(either), true))
		is(t, text("MeetSpaces of", span(a), span(b)), text(impl.MeetSpaces(span(a), span(b))), text(span(both), true))
	}
}

func TestSumAndMeetOutside(t *testing.T) {
	good := matrix(3, "1 0 2, 0 1 1")
	for _, m := range []impl.Matrix{matrix(3, "0 1 0, 1 0 0"), matrix(3, "2 0 0"), zeros(3, 1, 3), matrix(3, "1 0 0, 0 0 0"), matrix(3, "1 1 0, 0 1 0"), matrix(3, "1 2, 0 0"), matrix(5, "1 0 2, 0 1 1"), matrix(2, "1 0 0"), matrix(3, "1 0, 0 1"), matrix(3, "1 0 2 0, 0 1 1 0"), noRows(2, 3), noRows(3, 2), noRows(3, 4), {}} {
		is(t, text("SumSpaces of", good, m), text(impl.SumSpaces(good, m)), "{0 0 0 []} false")
		is(t, text("SumSpaces of", m, good), text(impl.SumSpaces(m, good)), "{0 0 0 []} false")
		is(t, text("MeetSpaces of", good, m), text(impl.MeetSpaces(good, m)), "{0 0 0 []} false")
		is(t, text("MeetSpaces of", m, good), text(impl.MeetSpaces(m, good)), "{0 0 0 []} false")
	}
	for _, pair := range [][2]impl.Matrix{{noRows(3, 3), noRows(3, 4)}, {noRows(3, 3), noRows(5, 3)}, {zeros(3, 1, 3), zeros(3, 1, 3)}, {matrix(2, "1 0"), matrix(3, "1 0")}, {matrix(2, "1 0"), matrix(2, "1 0 0")}} {
		is(t, text("SumSpaces of", pair), text(impl.SumSpaces(pair[0], pair[1])), "{0 0 0 []} false")
		is(t, text("MeetSpaces of", pair), text(impl.MeetSpaces(pair[0], pair[1])), "{0 0 0 []} false")
	}
}

func TestSpaceString(t *testing.T) {
	source := rand.New(rand.NewPCG(7, 9))
	for i := range 200 {
		p, n := primes()[i%4], 1+i%7
		m := randomReduced(source, p, source.IntN(n+1), n)
		want := make([]int, n)
		for _, j := range firstsOf(m) {
			want[j] = 1
		}
		is(t, text("SpaceString of", m), text(impl.SpaceString(m)), text(want))
	}
	for _, m := range []impl.Matrix{zeros(3, 1, 3), matrix(3, "2 0 0"), matrix(3, "0 1 0, 1 0 0"), matrix(3, "1 1 0, 0 1 0"), matrix(2, "1 0, 0 0")} {
		is(t, text("SpaceString of", m), text(impl.SpaceString(m)), "[]")
	}
	is(t, "SpaceString of few", text(impl.SpaceString(noRows(2, 3)), impl.SpaceString(matrix(7, "1 0, 0 1")), impl.SpaceString(matrix(5, "0 1 4 0 2, 0 0 0 1 3"))), "[0 0 0] [1 1] [0 1 0 1 0]")
}

func TestSpacesWithFew(t *testing.T) {
	for _, c := range []struct {
		p       int
		s, want string
	}{
		{2, "10", "1 0; 1 1"}, {2, "01", "0 1"}, {2, "1", "1"}, {7, "11", "1 0, 0 1"}, {3, "100", "1 0 0; 1 0 1; 1 0 2; 1 1 0; 1 1 1; 1 1 2; 1 2 0; 1 2 1; 1 2 2"}, {2, "1010", "1 0 0 0, 0 0 1 0; 1 0 0 0, 0 0 1 1; 1 0 0 1, 0 0 1 0; 1 0 0 1, 0 0 1 1; 1 1 0 0, 0 0 1 0; 1 1 0 0, 0 0 1 1; 1 1 0 1, 0 0 1 0; 1 1 0 1, 0 0 1 1"}, {5, "0101", "0 1 0 0, 0 0 0 1; 0 1 1 0, 0 0 0 1; 0 1 2 0, 0 0 0 1; 0 1 3 0, 0 0 0 1; 0 1 4 0, 0 0 0 1"},
	} {
		is(t, text("SpacesWith", c.p, c.s), text(impl.SpacesWith(c.p, digits(c.s))), text(matrices(c.p, c.want), true))
	}
	for _, p := range primes() {
		for n := 1; n <= 7; n++ {
			is(t, text("SpacesWith", p, n, "zeros"), text(impl.SpacesWith(p, repeated(0, n))), text([]impl.Matrix{noRows(p, n)}, true))
			is(t, text("SpacesWith", p, n, "ones"), text(impl.SpacesWith(p, repeated(1, n))), text([]impl.Matrix{onesAt(p, n, ascending(n))}, true))
		}
	}
}

// freePlaces counts the pairs of a one and a zero behind it.
func freePlaces(s []int) int {
	count := 0
	for j, x := range s {
		if x == 0 {
			count += total(s[:j])
		}
	}
	return count
}

// TestSpacesWith: there are as many different spaces with a string as a power of p says.
// All powers up to MaxSpaces occur.
func TestSpacesWith(t *testing.T) {
	lengths := map[int]bool{}
	for _, p := range primes() {
		for n := 1; n <= 7; n++ {
			for _, s := range wordsOf(2, n) {
				l, ok := impl.SpacesWith(p, s)
				lengths[len(l)] = true
				checkListed(t, text("SpacesWith", p, s), l, ok, p, freePlaces(s), func(m impl.Matrix) bool {
					return isReduced(m) && slices.Equal(impl.SpaceString(m), s)
				})
			}
		}
	}
	is(t, "lengths of lists, with that of none", text(len(lengths)), "21")
}

// TestSpacesWithAreAll goes by the definition.
func TestSpacesWithAreAll(t *testing.T) {
	for _, size := range []struct{ p, k, n int }{{2, 0, 3}, {2, 1, 3}, {2, 2, 3}, {2, 3, 3}, {2, 2, 4}, {2, 3, 4}, {2, 2, 5}, {2, 1, 7}, {3, 1, 4}, {3, 2, 3}, {3, 2, 4}, {5, 1, 4}, {5, 2, 3}, {7, 1, 3}, {7, 2, 2}} {
		byString := map[string][]impl.Matrix{}
		all := allSpaces(size.p, size.k, size.n)
		for _, m := range all {
			s := text(impl.SpaceString(m))
			byString[s] = append(byString[s], m)
		}
		for _, s := range stringsWith(size.k, size.n) {
			is(t, text("SpacesWith", size.p, s), text(impl.SpacesWith(size.p, s)), text(byString[text(s)], true))
		}
		is(t, text("CountSpaces of", size), text(impl.CountSpaces(size.p, size.k, size.n)), text(len(all)))
	}
}

func TestSpacesWithOutside(t *testing.T) {
	for _, p := range notPrimes() {
		for _, s := range [][]int{{0}, {1}, {1, 0}, {0, 1, 0, 1}, repeated(1, 7)} {
			is(t, text("SpacesWith", p, s), text(impl.SpacesWith(p, s)), "[] false")
		}
	}
	for _, p := range primes() {
		for _, s := range notStrings() {
			is(t, "SpacesWith "+brief(p, s), text(impl.SpacesWith(p, s)), "[] false")
		}
	}
}

func TestCountSpacesOfFew(t *testing.T) {
	for _, c := range []struct{ p, k, n, want int }{{2, 1, 2, 3}, {2, 2, 4, 35}, {3, 1, 3, 13}, {2, 3, 7, 11811}, {2, 4, 7, 11811}, {5, 2, 5, 20306}, {3, 3, 6, 33880}, {7, 1, 7, 137257}, {7, 6, 7, 137257}, {7, 3, 7, 16531644851}, {2, 0, 1, 1}, {7, 1, 1, 1}, {5, 0, 7, 1}, {5, 7, 7, 1}, {2, 2, 5, 155}} {
		is(t, text("CountSpaces of", c.p, c.k, c.n), text(impl.CountSpaces(c.p, c.k, c.n)), text(c.want))
	}
}

// TestCountSpaces counts bases: those of all rows, and those of one space; and adds up
// strings, and shapes by their sizes.
func TestCountSpaces(t *testing.T) {
	for _, p := range primes() {
		for _, b := range boxesUpTo(7) {
			what := text("CountSpaces of", p, b)
			got := impl.CountSpaces(p, b.k, b.n)
			byStrings, byShapes, bases, of := 0, 0, 1.0, 1.0
			for _, s := range stringsWith(b.k, b.n) {
				byStrings += power(p, freePlaces(s))
			}
			for size, count := range impl.GaussCounts(b.k, b.n) {
				byShapes += count * power(p, size)
			}
			for i := range b.k {
				bases *= float64(power(p, b.n-i) - 1)
				of *= float64(power(p, b.k-i) - 1)
			}
			is(t, what, text(got, got, got), text(byStrings, byShapes, int(math.Round(bases/of))))
			is(t, what+", of as many columns less", text(impl.CountSpaces(p, b.n-b.k, b.n)), text(got))
		}
	}
}

func TestCountSpacesOutside(t *testing.T) {
	for _, p := range notPrimes() {
		for _, b := range boxesUpTo(7) {
			is(t, text("CountSpaces of", p, b), text(impl.CountSpaces(p, b.k, b.n)), "-1")
		}
	}
	for _, b := range notBoxes() {
		for _, p := range append(primes(), 4, -1) {
			is(t, text("CountSpaces of", p, b), text(impl.CountSpaces(p, b.k, b.n)), "-1")
		}
	}
}
