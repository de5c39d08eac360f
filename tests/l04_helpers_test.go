package tests

import (
	"math"
	"slices"
	"strings"
	"testing"

	"loop.example/g03113/impl"
)

// numbers reads a list of numbers that is known to be one.
func numbers(s string) []int {
	l, ok := impl.ParseInts(s)
	if !ok {
		panic("no numbers: " + s)
	}
	return l
}

// rows reads rows of numbers, such as "0 1, 1".
func rows(s string) [][]int {
	var t [][]int
	for row := range strings.SplitSeq(s, ", ") {
		t = append(t, numbers(row))
	}
	return t
}

// parts reads what FormatParts writes.
func parts(s string) []impl.Part {
	var l []impl.Part
	for piece := range strings.SplitSeq(s, ", ") {
		count, shape, _ := strings.Cut(piece, ":")
		l = append(l, impl.Part{Shape: numbers(shape), Count: numbers(count)[0]})
	}
	return l
}

// shapesOf returns all shapes of a size with rows of at most the given length, in
// descending order.
func shapesOf(size int, longest int) [][]int {
	if size == 0 {
		return [][]int{{}}
	}
	var all [][]int
	for length := min(size, longest); length > 0; length-- {
		for _, rest := range shapesOf(size-length, length) {
			all = append(all, append([]int{length}, rest...))
		}
	}
	return all
}

func shapesUpTo(size int) [][]int {
	var all [][]int
	for s := range size + 1 {
		all = append(all, shapesOf(s, s)...)
	}
	return all
}

func total(l []int) int {
	sum := 0
	for _, x := range l {
		sum += x
	}
	return sum
}

// conjugate counts, for each column, the rows that reach it.
func conjugate(shape []int) []int {
	var columns []int
	for j := 0; len(shape) > 0 && j < shape[0]; j++ {
		height := 0
		for _, length := range shape {
			if length > j {
				height++
			}
		}
		columns = append(columns, height)
	}
	return columns
}

// rowOf is the length of row i, 0 if there is none.
func rowOf(shape []int, i int) int {
	if i < 0 || i >= len(shape) {
		return 0
	}
	return shape[i]
}

func shapeOf(t [][]int) []int {
	var shape []int
	for _, row := range t {
		shape = append(shape, len(row))
	}
	return shape
}

// ascends reports whether rows do not descend and columns ascend; the lengths of
// the rows do not ascend.
func ascends(t [][]int) bool {
	for i, row := range t {
		for j, x := range row {
			if j > 0 && row[j-1] > x || i > 0 && t[i-1][j] >= x {
				return false
			}
		}
	}
	return true
}

// cut lays numbers into the rows of a shape.
func cut(word []int, shape []int) [][]int {
	var t [][]int
	for _, length := range shape {
		t = append(t, word[:length])
		word = word[length:]
	}
	return t
}

// tableauxFrom tries all numbers less than n in all cells.
func tableauxFrom(shape []int, n int) [][][]int {
	var all [][][]int
	for _, word := range wordsOf(n, total(shape)) {
		if t := cut(word, shape); ascends(t) {
			all = append(all, t)
		}
	}
	return all
}

// withoutStrip returns the shapes that are left when the cells of the greatest
// number are taken away: at most one in each column, at ends of rows.
func withoutStrip(shape []int) [][]int {
	lefts := [][]int{{}}
	for i, length := range shape {
		var longer [][]int
		for _, left := range lefts {
			for kept := rowOf(shape, i+1); kept <= length; kept++ {
				longer = append(longer, append(slices.Clone(left), kept))
			}
		}
		lefts = longer
	}
	for k, left := range lefts {
		for len(left) > 0 && left[len(left)-1] == 0 {
			left = left[:len(left)-1]
		}
		lefts[k] = left
	}
	return lefts
}

// schurFinder finds Schur polynomials by taking away the greatest number; those
// that are found are kept.
type schurFinder map[string]free

func (known schurFinder) of(shape []int, n int) free {
	if n == 0 {
		if len(shape) == 0 {
			return one()
		}
		return free{}
	}
	key := text(shape, n)
	if found, ok := known[key]; ok {
		return found
	}
	sum := free{}
	for _, left := range withoutStrip(shape) {
		for e, coef := range known.of(left, n-1) {
			e[n-1] += total(shape) - total(left)
			sum[e] += coef
		}
	}
	known[key] = sum
	return sum
}

// atOne is the sum of the coefficients.
func (p free) atOne() int {
	sum := 0
	for _, coef := range p {
		sum += coef
	}
	return sum
}

// standardFinder counts the tableaux with each number once by the place of the
// greatest number; the counts that are found are kept.
type standardFinder map[string]int

func (known standardFinder) of(shape []int) int {
	if len(shape) == 0 {
		return 1
	}
	key := text(shape)
	if found, ok := known[key]; ok {
		return found
	}
	count := 0
	for i := range shape {
		if shape[i] > rowOf(shape, i+1) {
			less := slices.Clone(shape)
			less[i]--
			if less[i] == 0 {
				less = less[:i]
			}
			count += known.of(less)
		}
	}
	known[key] = count
	return count
}

// fillingsByDefinition counts the fillings of c over a with content b: it tries all
// ways to give the numbers to the cells.
func fillingsByDefinition(a []int, b []int, c []int) int {
	if total(a)+total(b) != total(c) {
		return 0
	}
	for i := range max(len(a), len(c)) {
		if rowOf(a, i) > rowOf(c, i) {
			return 0
		}
	}
	count := 0
	left := slices.Clone(b)
	var word []int
	var try func()
	try = func() {
		if len(word) == total(b) {
			if isFilling(a, c, word) {
				count++
			}
			return
		}
		for i := range left {
			if left[i] > 0 {
				left[i]--
				word = append(word, i)
				try()
				word = word[:len(word)-1]
				left[i]++
			}
		}
	}
	try()
	return count
}

// isFilling lays the word into the cells of c that are not in a, row by row from
// the left, and asks all conditions but that for the content.
func isFilling(a []int, c []int, word []int) bool {
	const none = -1
	var grid [20][20]int
	for i := range grid {
		for j := range grid[i] {
			grid[i][j] = none
		}
	}
	var seen [20]int
	for i := range c {
		for j := rowOf(a, i); j < c[i]; j++ {
			grid[i][j] = word[0]
			word = word[1:]
			if j > rowOf(a, i) && grid[i][j-1] > grid[i][j] || i > 0 && grid[i-1][j] >= grid[i][j] {
				return false
			}
		}
		for j := c[i] - 1; j >= rowOf(a, i); j-- {
			x := grid[i][j]
			seen[x]++
			if x > 0 && seen[x] > seen[x-1] {
				return false
			}
		}
	}
	return true
}

// productByDefinition returns the shapes with fillings over a with content b.
func productByDefinition(a []int, b []int) []impl.Part {
	var l []impl.Part
	size := total(a) + total(b)
	for _, c := range shapesOf(size, size) {
		if count := fillingsByDefinition(a, b, c); count > 0 {
			l = append(l, impl.Part{Shape: c, Count: count})
		}
	}
	slices.Reverse(l)
	return l
}

// put inserts a number by the definition; where swaps are inserted, a row with both
// x and x + 1 stays. It returns the row that has grown, too.
func put(t [][]int, x int, swaps bool) ([][]int, int) {
	for i := 0; ; i++ {
		if i == len(t) {
			return append(t, []int{x}), i
		}
		has := map[int]bool{}
		smaller := 0
		for _, y := range t[i] {
			has[y] = true
			if y <= x {
				smaller++
			}
		}
		if swaps && has[x] && has[x+1] {
			x++
			continue
		}
		if smaller == len(t[i]) {
			t[i] = append(t[i], x)
			return t, i
		}
		t[i][smaller], x = x, t[i][smaller]
	}
}

// putAll inserts a word; it returns the second tableau, too.
func putAll(word []int, swaps bool) ([][]int, [][]int) {
	var p, q [][]int
	for k, x := range word {
		var i int
		p, i = put(p, x, swaps)
		if i == len(q) {
			q = append(q, nil)
		}
		q[i] = append(q[i], k)
	}
	return p, q
}

func copyOf(t [][]int) [][]int {
	var u [][]int
	for _, row := range t {
		u = append(u, slices.Clone(row))
	}
	return u
}

func transposed(t [][]int) [][]int {
	var u [][]int
	for _, row := range t {
		for j, x := range row {
			if j == len(u) {
				u = append(u, nil)
			}
			u[j] = append(u[j], x)
		}
	}
	return u
}

// someShapes returns shapes of all kinds, up to the limits.
func someShapes() [][]int {
	all := append(shapesUpTo(6), shapesOf(8, 8)...)
	for length := 1; length <= 16; length++ {
		all = append(all, repeated(1, length), []int{length}, repeated(16, length), repeated(length, 16))
	}
	return append(all, numbers("16 15 14 13 12 11 10 9 8 7 6 5 4 3 2 1"), numbers("16 16 3 3 1"), numbers("7 6 5 4 3 2 1"))
}

// notShapes returns lists that are no shapes.
func notShapes() [][]int {
	return [][]int{
		{0}, {-1}, {17}, {18}, {0, 0}, {1, 0}, {2, 0}, {16, 0}, {1, 2}, {2, 2, 3}, {3, 1, 2}, {2, 1, 0}, {2, 0, 1}, {2, -1}, {-1, -2}, {17, 1}, {16, 17}, {1, 1, 1, 1, 2},
		repeated(1, 17), repeated(16, 17), repeated(1, 18), append(repeated(1, 16), 0), append(repeated(1, 15), 2), repeated(0, 16), repeated(1, 100000), ascending(100000),
		{math.MaxInt}, {math.MinInt}, {1 << 32}, {1<<32 + 1}, {1 << 8}, {1, math.MinInt}, {2, 1<<32 + 1}, {math.MaxInt, math.MaxInt},
	}
}

// notTableaux returns lists of rows that are no tableaux.
func notTableaux() [][][]int {
	all := [][][]int{
		{{}}, {nil}, {{}, {}}, {{0}, {}}, {{}, {0}}, {{0, 1}, {}, {2}}, {{0}, {1, 2}}, {{0}, {1}, {2, 3}}, {{0, 0}, {1}, {2, 2}}, {{1, 0}}, {{0, 2, 1}}, {{0, 0, 0, 20, 19}},
		{{0}, {0}}, {{1}, {0}}, {{0, 0}, {1, 0}}, {{0, 1}, {1, 1}}, {{0, 1, 2}, {1, 3, 2}}, {{0, 0}, {1, 1}, {1, 2}}, {{0, 0}, {1, 1}, {2, 1}}, {{0}, {2}, {2}}, {{0}, {3}, {2}},
		{repeated(0, 17)}, {ascending(17)}, {repeated(20, 18)}, {repeated(0, 17), {1}}, transposed([][]int{ascending(17)}), transposed([][]int{ascending(21)}), {repeated(0, 100000)}, make([][]int, 100000), make([][]int, 16), {{0}, repeated(1, 17)},
		{{math.MaxInt}, {math.MinInt}}, {{20}, {math.MinInt}}, {{0, math.MinInt}}, {{math.MaxInt, math.MaxInt}},
	}
	for _, x := range []int{-1, -2, 21, 22, 256, 1 << 32, -1 << 32, 1<<32 + 1, math.MaxInt, math.MinInt} {
		all = append(all, [][]int{{x}}, [][]int{{0, x}}, [][]int{{0}, {x}}, [][]int{{x, x}}, [][]int{{0, 0, 5}, {1, 2}, {x}})
	}
	return all
}

// notParts returns lists for which PartsOk is false.
func notParts() [][]impl.Part {
	all := [][]impl.Part{
		{{}}, {{}, {}}, {{Shape: []int{1}}}, parts("0:1"), parts("0:"), parts("1:, 1:"), parts("1:1, 1:1"), parts("1:1, -1:1"), parts("2:1, 3:1"), parts("1:1, 1:"), parts("1:2, 1:1 1"), parts("1:2 1, 1:2"), parts("1:1, 1:2, 1:1 1"),
		parts("1:1, 1:1 1, 1:1 1"), parts("1:, 0:1"), parts("0:, 1:1"), parts("1:1, 0:2, 1:3"), parts("1:2, 1:1"), make([]impl.Part, 100000),
	}
	for _, l := range notShapes() {
		all = append(all, []impl.Part{{Shape: l, Count: 1}}, []impl.Part{{Count: 1}, {Shape: l, Count: 1}}, []impl.Part{{Shape: l, Count: 1}, {Shape: []int{16}, Count: 1}})
	}
	return all
}

// sizesOutside are not from 0 to 6, nor to 7, nor to 8.
func sizesOutside() []int { return []int{-1, -2, 9, 16, 64, 1 << 32, math.MaxInt, math.MinInt} }

// partsOfShapes adds up the numbers of times that shapes occur, and returns them in
// ascending order, without those of 0.
func partsOfShapes(counts map[string]int) []impl.Part {
	var l []impl.Part
	for s, count := range counts {
		if count != 0 {
			l = append(l, impl.Part{Shape: numbers(s), Count: count})
		}
	}
	slices.SortFunc(l, func(a, b impl.Part) int { return slices.Compare(a.Shape, b.Shape) })
	return l
}

// product returns ShapeProduct, which must succeed.
func product(t *testing.T, a []int, b []int) []impl.Part {
	t.Helper()
	l, ok := impl.ShapeProduct(a, b)
	isTrue(t, text("ShapeProduct of", a, b, "succeeds"), ok)
	return l
}
