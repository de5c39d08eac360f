package tests

import (
	"math"
	"math/cmplx"
	"slices"
	"strings"
	"testing"

	"loop.example/g03113/impl"
)

// box is that of shapes with at most k rows, none longer than n - k.
type box struct{ k, n int }

func boxesUpTo(n int) []box {
	var all []box
	for size := 1; size <= n; size++ {
		for k := range size + 1 {
			all = append(all, box{k, size})
		}
	}
	return all
}

// quantumBoxesUpTo leaves out those of no rows.
func quantumBoxesUpTo(n int) []box {
	return slices.DeleteFunc(boxesUpTo(n), func(b box) bool { return b.k == 0 })
}

// shapes returns the shapes in the box in ascending order, from their strings.
func (b box) shapes() [][]int {
	var all [][]int
	for _, s := range stringsWith(b.k, b.n) {
		all = append(all, shapeOfDigits(s))
	}
	slices.SortFunc(all, slices.Compare)
	return all
}

// full returns the shape that fills the box.
func (b box) full() []int {
	if b.k == b.n {
		return nil
	}
	return repeated(b.n-b.k, b.k)
}

// notBoxes returns choices of k and n that make no box.
func notBoxes() []box {
	var all []box
	for _, n := range append(sizesOutside(), 0, 8) {
		for _, k := range []int{0, 1, 2, n, n - 1, -1, math.MaxInt, math.MinInt} {
			all = append(all, box{k, n})
		}
	}
	for n := 1; n <= 7; n++ {
		for _, k := range append(sizesOutside(), n+1, n+2) {
			all = append(all, box{k, n})
		}
	}
	return all
}

// notIn returns lists that are not in the box: some are no shapes, some are too wide
// or too high.
func (b box) notIn() [][]int {
	all := append(notShapes(), repeated(1, b.k+1), []int{b.n - b.k + 1}, repeated(b.n-b.k+1, b.k), repeated(max(b.n-b.k, 1), b.k+1), repeated(16, 16), repeated(1, 16), []int{16})
	if b.k > 0 {
		all = append(all, append([]int{b.n - b.k + 1}, repeated(1, b.k-1)...))
	}
	return slices.DeleteFunc(all, func(l []int) bool { return len(l) == 0 })
}

// trimmedRows leaves out rows without cells at the end.
func trimmedRows(rows []int) []int {
	for len(rows) > 0 && rows[len(rows)-1] == 0 {
		rows = rows[:len(rows)-1]
	}
	return rows
}

// dual turns what the box has beside the shape by half a turn.
func (b box) dual(shape []int) []int {
	var rows []int
	for i := b.k - 1; i >= 0; i-- {
		rows = append(rows, b.n-b.k-rowOf(shape, i))
	}
	return trimmedRows(rows)
}

// plain returns GrProduct, which must succeed.
func (b box) plain(t *testing.T, x []int, y []int) []impl.Part {
	t.Helper()
	l, ok := impl.GrProduct(x, y, b.k, b.n)
	isTrue(t, text("GrProduct of", x, y, "in", b, "succeeds"), ok)
	return l
}

// quantum returns QuantumProduct, which must succeed.
func (b box) quantum(t *testing.T, x []int, y []int) []impl.QPart {
	t.Helper()
	l, ok := impl.QuantumProduct(x, y, b.k, b.n)
	isTrue(t, text("QuantumProduct of", x, y, "in", b, "succeeds"), ok)
	return l
}

// qparts reads what FormatQParts writes.
func qparts(s string) []impl.QPart {
	var l []impl.QPart
	for piece := range strings.SplitSeq(s, ", ") {
		fields := strings.Split(piece, ":")
		l = append(l, impl.QPart{Power: numbers(fields[1][1:])[0], Shape: numbers(fields[2]), Count: numbers(fields[0])[0]})
	}
	return l
}

// quantumSum is a sum of shapes with powers of q: the numbers by what FormatQParts
// writes behind them.
type quantumSum map[string]int

func (sum quantumSum) add(power int, shape []int, count int) {
	sum[":q"+impl.FormatInt(power)+":"+impl.FormatInts(shape)] += count
}

// parts returns what is not 0, by ascending power and shape.
func (sum quantumSum) parts() []impl.QPart {
	var l []impl.QPart
	for s, count := range sum {
		if count != 0 {
			part := qparts("0" + s)[0]
			part.Count = count
			l = append(l, part)
		}
	}
	slices.SortFunc(l, func(a, b impl.QPart) int {
		return slices.Compare(append([]int{a.Power}, a.Shape...), append([]int{b.Power}, b.Shape...))
	})
	return l
}

// signOfOrder is 1 or -1, as an even or odd number of exchanges puts a list in
// descending order, and 0 if two of its numbers are equal.
func signOfOrder(l []int) int {
	sign := 1
	for j := range l {
		for i := range j {
			if l[i] == l[j] {
				return 0
			}
			if l[i] < l[j] {
				sign = -sign
			}
		}
	}
	return sign
}

// productInRows returns how often each shape of at most k rows occurs in the product
// of a and b: each tableau of b adds its numbers to the rows of a, and what is no
// shape then is put in order.
func productInRows(known schurFinder, a []int, b []int, k int) map[string]int {
	counts := map[string]int{}
	for added, coef := range known.of(b, k) {
		var l []int
		for i := range k {
			l = append(l, rowOf(a, i)+added[i]+k-1-i)
		}
		sign := signOfOrder(l)
		slices.Sort(l)
		slices.Reverse(l)
		for i := range l {
			l[i] -= k - 1 - i
		}
		counts[impl.FormatInts(trimmedRows(l))] += sign * coef
	}
	return counts
}

// withoutRim takes n cells of the rim away that hang together; it returns what is
// left, and the number of rows that have lost cells; 0 if there are no such cells.
func withoutRim(shape []int, n int) ([]int, int) {
	for top := range shape {
		left, lost := slices.Clone(shape), 0
		for bottom := top; bottom < len(shape); bottom++ {
			left[bottom] = shape[bottom] - n + lost
			if left[bottom] >= rowOf(shape, bottom+1) && left[bottom] < shape[bottom] {
				return trimmedRows(left), bottom - top + 1
			}
			left[bottom] = rowOf(shape, bottom+1) - 1
			lost += shape[bottom] - left[bottom]
		}
	}
	return nil, 0
}

// unhooked takes rims of n cells away as long as there are any. Each one of them
// counts -1 if it has an odd number of rows less than k. What does not fit into the
// box at last is nothing: 0.
func (b box) unhooked(shape []int) (int, []int, int) {
	power, sign := 0, 1
	for {
		left, rows := withoutRim(shape, b.n)
		if rows == 0 {
			break
		}
		shape = left
		power++
		if (b.k-rows)%2 == 1 {
			sign = -sign
		}
	}
	if len(shape) > b.k || rowOf(shape, 0) > b.n-b.k {
		return 0, nil, 0
	}
	return power, shape, sign
}

// quantumByRims is the quantum product: all shapes of at most k rows, without rims.
func (b box) quantumByRims(known schurFinder, x []int, y []int) quantumSum {
	sum := quantumSum{}
	for s, count := range productInRows(known, x, y, b.k) {
		if power, shape, sign := b.unhooked(numbers(s)); sign != 0 {
			sum.add(power, shape, sign*count)
		}
	}
	return sum
}

// quantumTimes multiplies a sum by a shape, part by part.
func (b box) quantumTimes(t *testing.T, l []impl.QPart, shape []int) []impl.QPart {
	t.Helper()
	sum := quantumSum{}
	for _, x := range l {
		for _, y := range b.quantum(t, x.Shape, shape) {
			sum.add(x.Power+y.Power, y.Shape, x.Count*y.Count)
		}
	}
	return sum.parts()
}

// determinant goes over all permutations.
func determinant(m [][]complex128) complex128 {
	sum := complex(0, 0)
	for _, w := range permsOf(len(m)) {
		product := complex(1-2*float64(inversionsOf(w)%2), 0)
		for i, j := range w {
			product *= m[i][j]
		}
		sum += product
	}
	return sum
}

// rootValues has the values of the Schur polynomials of all shapes in a box at all
// choices of k of the n numbers whose n-th power is 1, or -1 if k is even. With
// weights, such values tell the number of a shape in a sum.
type rootValues struct {
	weights []float64
	of      map[string][]complex128
}

func (b box) rootValues() rootValues {
	values := rootValues{of: map[string][]complex128{}}
	for _, s := range stringsWith(b.k, b.n) {
		var x []complex128
		for i, chosen := range s {
			if chosen == 1 {
				turn := (float64(i) + float64((b.k-1)%2)/2) / float64(b.n)
				x = append(x, cmplx.Exp(complex(0, 2*math.Pi*turn)))
			}
		}
		differences := determinant(powersOf(x, nil))
		values.weights = append(values.weights, real(differences*cmplx.Conj(differences))/math.Pow(float64(b.n), float64(b.k)))
		for _, shape := range b.shapes() {
			key := text(shape)
			values.of[key] = append(values.of[key], determinant(powersOf(x, shape))/differences)
		}
	}
	return values
}

// powersOf has the power of each number with the row j of the shape, and the number of
// rows behind it, at each place j.
func powersOf(x []complex128, shape []int) [][]complex128 {
	var m [][]complex128
	for _, number := range x {
		var row []complex128
		for j := range x {
			power := complex(1, 0)
			for range rowOf(shape, j) + len(x) - 1 - j {
				power *= number
			}
			row = append(row, power)
		}
		m = append(m, row)
	}
	return m
}

// count is the number of the shape c in the quantum product of a and b, with q = 1.
func (v rootValues) count(a []int, b []int, c []int) int {
	sum := complex(0, 0)
	x, y, z := v.of[text(a)], v.of[text(b)], v.of[text(c)]
	for i, weight := range v.weights {
		sum += x[i] * y[i] * cmplx.Conj(z[i]) * complex(weight, 0)
	}
	return int(math.Round(real(sum)))
}
