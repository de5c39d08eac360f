package tests

import (
	"math"
	"math/rand/v2"
	"slices"
	"strings"
	"testing"

	"loop.example/g03113/impl"
)

func primes() []int { return []int{2, 3, 5, 7} }

func notPrimes() []int {
	return []int{0, 1, 4, 6, 8, 9, 10, 11, 13, 49, -1, -2, -3, -7, 1 << 32, 1<<32 + 2, 1<<32 + 7, math.MaxInt, math.MinInt}
}

// matrixOfRows copies the rows.
func matrixOfRows(p int, cols int, l [][]int) impl.Matrix {
	m := impl.Matrix{P: p, Rows: len(l), Cols: cols}
	for _, row := range l {
		m.Data = append(m.Data, row...)
	}
	return m
}

// matrix reads the rows of a matrix, such as "1 2, 0 1".
func matrix(p int, s string) impl.Matrix {
	l := rows(s)
	return matrixOfRows(p, len(l[0]), l)
}

// matrices reads some of them, such as "1 0, 0 1; 1 1, 0 1".
func matrices(p int, s string) []impl.Matrix {
	var l []impl.Matrix
	for piece := range strings.SplitSeq(s, "; ") {
		l = append(l, matrix(p, piece))
	}
	return l
}

func noRows(p int, cols int) impl.Matrix { return impl.Matrix{P: p, Cols: cols} }

func zeros(p int, rows int, cols int) impl.Matrix {
	return impl.Matrix{P: p, Rows: rows, Cols: cols, Data: make([]int, rows*cols)}
}

func at(m impl.Matrix, i int, j int) int { return m.Data[i*m.Cols+j] }

func rowsOf(m impl.Matrix) [][]int {
	l := make([][]int, m.Rows)
	for i := range l {
		l[i] = slices.Clone(m.Data[i*m.Cols : (i+1)*m.Cols])
	}
	return l
}

// firstRows returns the matrix of the first rows of m.
func firstRows(m impl.Matrix, count int) impl.Matrix {
	return matrixOfRows(m.P, m.Cols, rowsOf(m)[:count])
}

// cornerOf returns the matrix of the first cols numbers of the first rows, cols not 0.
func cornerOf(m impl.Matrix, count int, cols int) impl.Matrix {
	l := rowsOf(m)[:count]
	for i := range l {
		l[i] = l[i][:cols]
	}
	return matrixOfRows(m.P, cols, l)
}

// stacked puts the rows of b below those of a.
func stacked(a impl.Matrix, b impl.Matrix) impl.Matrix {
	return matrixOfRows(a.P, a.Cols, append(rowsOf(a), rowsOf(b)...))
}

// transposedMatrix has rows and columns exchanged; m has rows.
func transposedMatrix(m impl.Matrix) impl.Matrix {
	return matrixOfRows(m.P, m.Rows, transposed(rowsOf(m)))
}

// timesMatrix multiplies place by place.
func timesMatrix(a impl.Matrix, b impl.Matrix) impl.Matrix {
	m := impl.Matrix{P: a.P, Rows: a.Rows, Cols: b.Cols}
	for i := range a.Rows {
		for j := range b.Cols {
			sum := 0
			for k := range a.Cols {
				sum += at(a, i, k) * at(b, k, j)
			}
			m.Data = append(m.Data, sum%a.P)
		}
	}
	return m
}

// vector is a row, followed by zeros.
type vector [7]int

// vectors is a set of rows of one length.
type vectors map[vector]bool

// sumsOf returns all sums of multiples of the rows of m.
func sumsOf(m impl.Matrix) vectors {
	sums := vectors{vector{}: true}
	for _, row := range rowsOf(m) {
		more := vectors{}
		for v := range sums {
			for range m.P {
				more[v] = true
				for j, x := range row {
					v[j] = (v[j] + x) % m.P
				}
			}
		}
		sums = more
	}
	return sums
}

// dimension tells which power of p the size of a set is.
func (sums vectors) dimension(p int) int {
	k := 0
	for size := len(sums); size > 1; size /= p {
		k++
	}
	return k
}

func (sums vectors) both(others vectors) vectors {
	both := vectors{}
	for v := range sums {
		if others[v] {
			both[v] = true
		}
	}
	return both
}

func (sums vectors) same(others vectors) bool {
	return len(sums) == len(others) && len(sums.both(others)) == len(sums)
}

// membersOf returns the members of a flag as sets.
func membersOf(m impl.Matrix) []vectors {
	var members []vectors
	for i := range m.Rows + 1 {
		members = append(members, sumsOf(firstRows(m, i)))
	}
	return members
}

// firstsOf returns the columns of the first numbers other than 0, -1 for a row of zeros.
func firstsOf(m impl.Matrix) []int {
	l := []int{}
	for _, row := range rowsOf(m) {
		l = append(l, slices.IndexFunc(row, func(x int) bool { return x != 0 }))
	}
	return l
}

func columnOf(m impl.Matrix, j int) []int {
	var column []int
	for i := range m.Rows {
		column = append(column, at(m, i, j))
	}
	return column
}

// isReduced asks what makes a space, of a matrix.
func isReduced(m impl.Matrix) bool {
	firsts := firstsOf(m)
	for i, j := range firsts {
		if j < 0 || at(m, i, j) != 1 || i > 0 && j <= firsts[i-1] || total(columnOf(m, j)) != 1 {
			return false
		}
	}
	return true
}

// isNormal asks what makes a normal form, of a square matrix. The first numbers then stand
// in different columns, so that it is a flag.
func isNormal(m impl.Matrix) bool {
	for i, j := range firstsOf(m) {
		if j < 0 || at(m, i, j) != 1 || total(columnOf(m, j)[i+1:]) != 0 {
			return false
		}
	}
	return m.Rows == m.Cols
}

// allMatrices returns them in ascending order of their Data.
func allMatrices(p int, rows int, cols int) []impl.Matrix {
	var all []impl.Matrix
	for _, data := range wordsOf(p, rows*cols) {
		all = append(all, impl.Matrix{P: p, Rows: rows, Cols: cols, Data: data})
	}
	return all
}

// allSpaces returns all spaces with so many rows, in ascending order of their Data.
func allSpaces(p int, rows int, cols int) []impl.Matrix {
	return slices.DeleteFunc(allMatrices(p, rows, cols), func(m impl.Matrix) bool { return !isReduced(m) })
}

// allNormal returns all flags in normal form, in ascending order of their Data.
func allNormal(p int, n int) []impl.Matrix {
	return slices.DeleteFunc(allMatrices(p, n, n), func(m impl.Matrix) bool { return !isNormal(m) })
}

func power(p int, k int) int {
	product := 1
	for range k {
		product *= p
	}
	return product
}

func randomMatrix(source *rand.Rand, p int, rows int, cols int) impl.Matrix {
	m := zeros(p, rows, cols)
	for i := range m.Data {
		m.Data[i] = source.IntN(p)
	}
	return m
}

// randomLower returns a matrix with 0 above the diagonal, and nowhere on it.
func randomLower(source *rand.Rand, p int, n int) impl.Matrix {
	m := randomMatrix(source, p, n, n)
	for i := range n {
		for j := i + 1; j < n; j++ {
			m.Data[i*n+j] = 0
		}
		m.Data[i*n+i] = 1 + source.IntN(p-1)
	}
	return m
}

func randomUpper(source *rand.Rand, p int, n int) impl.Matrix {
	return transposedMatrix(randomLower(source, p, n))
}

// onesAt returns the matrix with 1 at the given column of each row, and a row of zeros
// where the column is -1.
func onesAt(p int, cols int, columns []int) impl.Matrix {
	m := zeros(p, len(columns), cols)
	for i, j := range columns {
		if j >= 0 {
			m.Data[i*cols+j] = 1
		}
	}
	return m
}

// between puts what keeps the ranks of all corners on both sides of m.
func between(source *rand.Rand, m impl.Matrix) impl.Matrix {
	if m.Rows > 0 {
		m = timesMatrix(randomLower(source, m.P, m.Rows), m)
	}
	return timesMatrix(m, randomUpper(source, m.P, m.Cols))
}

func randomFlag(source *rand.Rand, p int, n int) impl.Matrix {
	return between(source, onesAt(p, n, source.Perm(n)))
}

// smallSizes are those for which all sums of rows of a random matrix can be listed.
func smallSizes() []struct{ p, n int } {
	return []struct{ p, n int }{{2, 1}, {2, 2}, {2, 3}, {2, 4}, {2, 5}, {2, 7}, {3, 2}, {3, 3}, {3, 4}, {3, 5}, {5, 1}, {5, 2}, {5, 3}, {7, 1}, {7, 2}, {7, 3}}
}

// notMatrices returns what is no matrix: a modulus, sizes, lengths or numbers are wrong.
func notMatrices() []impl.Matrix {
	all := []impl.Matrix{
		{}, {P: -7}, {P: 2}, {P: 3, Rows: 1}, {P: 2, Rows: 1, Cols: 0}, {P: 2, Rows: -1, Cols: 1}, {P: 2, Rows: -1, Cols: -1, Data: []int{0}}, {P: 2, Rows: -2, Cols: -2, Data: []int{0, 0, 0, 0}}, {P: 2, Rows: 0, Cols: -1}, {P: 2, Rows: 0, Cols: 8},
		zeros(2, 8, 1), zeros(2, 8, 8), zeros(7, 1, 8), zeros(3, 8, 7), zeros(3, 7, 8), zeros(5, 9, 3), zeros(2, 100, 7), zeros(2, 7, 100),
		{P: 2, Rows: 1 << 32, Cols: 1 << 32}, {P: 2, Rows: math.MinInt, Cols: 2}, {P: 2, Rows: math.MaxInt, Cols: math.MaxInt, Data: []int{0}}, {P: 2, Rows: 1<<32 + 1, Cols: 1, Data: []int{0}}, {P: 2, Rows: 1, Cols: 1<<32 + 1, Data: []int{0}}, {P: 2, Rows: 0, Cols: math.MaxInt}, {P: 2, Rows: 0, Cols: math.MinInt},
		{P: 2, Rows: 1, Cols: 1}, {P: 2, Rows: 1, Cols: 1, Data: []int{1, 0}}, {P: 2, Rows: 0, Cols: 1, Data: []int{0}}, {P: 2, Rows: 2, Cols: 2, Data: []int{1, 0, 0}}, {P: 2, Rows: 2, Cols: 2, Data: []int{1, 0, 0, 1, 0}}, {P: 2, Rows: 2, Cols: 2, Data: make([]int, 100000)}, {P: 2, Rows: 7, Cols: 7, Data: make([]int, 48)}, {P: 2, Rows: 7, Cols: 7, Data: make([]int, 50)},
	}
	for _, p := range notPrimes() {
		all = append(all, noRows(p, 1), zeros(p, 1, 1), onesAt(p, 2, []int{0, 1}), onesAt(p, 3, []int{2, 0, 1}))
	}
	for _, p := range primes() {
		for _, x := range []int{-1, p, p + 1, -p, 1 - p, 1 << 32, 1<<32 + 1, math.MaxInt, math.MinInt} {
			all = append(all, matrixOfRows(p, 1, [][]int{{x}}), matrixOfRows(p, 2, [][]int{{x, 0}, {0, 1}}), matrixOfRows(p, 2, [][]int{{1, 0}, {0, x}}), matrixOfRows(p, 3, [][]int{{1, 0, x}}))
		}
	}
	return all
}

func isMatrix(t *testing.T, what string, got impl.Matrix, want impl.Matrix) {
	t.Helper()
	is(t, what, text(got), text(want))
}

// checkListed asks for as many matrices as a power of p says, all of them good, in
// ascending order; or for none, if that is more than MaxSpaces.
func checkListed(t *testing.T, what string, l []impl.Matrix, ok bool, p int, exponent int, isGood func(m impl.Matrix) bool) {
	t.Helper()
	count := power(p, min(exponent, 9))
	if count > 400 {
		is(t, what, text(l, ok), "[] false")
		return
	}
	is(t, what+", how many", text(len(l), ok), text(count, true))
	for i, m := range l {
		if !impl.MatrixOk(m) || m.P != p || !isGood(m) || i > 0 && slices.Compare(l[i-1].Data, m.Data) >= 0 {
			t.Errorf("%s: %v at the place %d", what, m, i)
		}
	}
}
