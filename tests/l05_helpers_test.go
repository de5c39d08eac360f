package tests

import (
	"math"
	"slices"
	"strings"
	"testing"

	"loop.example/g03113/impl"
)

// corner is a corner of small triangles: the corner k, from the left, of a row of
// corners. The row 0 is the top, the last row the bottom.
type corner struct{ row, k int }

// edge is a side of a small triangle: its upper or left corner comes first.
type edge struct{ from, to corner }

func leftEdge(row int, k int) edge { return edge{corner{row, k}, corner{row + 1, k}} }

func rightEdge(row int, k int) edge { return edge{corner{row, k}, corner{row + 1, k + 1}} }

func bottomEdge(row int, k int) edge { return edge{corner{row + 1, k}, corner{row + 1, k + 1}} }

// standing returns the sides of the small triangles that stand on a side, as the
// lists of a puzzle have them.
func standing(n int) [][3]edge {
	var all [][3]edge
	for row := range n {
		for k := range row + 1 {
			all = append(all, [3]edge{leftEdge(row, k), rightEdge(row, k), bottomEdge(row, k)})
		}
	}
	return all
}

// onTips returns the sides of the small triangles that stand on their tips: the
// right side, the left side and the top.
func onTips(n int) [][3]edge {
	var all [][3]edge
	for row := 1; row < n; row++ {
		for k := range row {
			left, right, tip := corner{row, k}, corner{row, k + 1}, corner{row + 1, k + 1}
			all = append(all, [3]edge{{right, tip}, {left, tip}, {left, right}})
		}
	}
	return all
}

// sidesOf returns the sides of the whole triangle, each in its direction.
func sidesOf(n int) [3][]edge {
	var sides [3][]edge
	for i := range n {
		sides[0] = append(sides[0], leftEdge(n-1-i, 0))
		sides[1] = append(sides[1], rightEdge(i, i))
		sides[2] = append(sides[2], bottomEdge(n-1, i))
	}
	return sides
}

type labels map[edge]int

// labelsOf lays the lists of a puzzle, which have the right lengths, out in the plane.
func labelsOf(p impl.Puzzle) labels {
	l := labels{}
	for i, t := range standing(p.Size) {
		l[t[0]], l[t[1]], l[t[2]] = p.Left[i], p.Right[i], p.Bottom[i]
	}
	return l
}

func (l labels) along(side []edge) []int {
	var s []int
	for _, e := range side {
		s = append(s, l[e])
	}
	return s
}

func (l labels) puzzle(n int) impl.Puzzle {
	p := impl.Puzzle{Size: n}
	for _, t := range standing(n) {
		p.Left = append(p.Left, l[t[0]])
		p.Right = append(p.Right, l[t[1]])
		p.Bottom = append(p.Bottom, l[t[2]])
	}
	return p
}

// moved puts each label at the edge between the corners to which move takes those of
// its own one.
func (l labels) moved(move func(corner) corner, flip func(int) int) labels {
	m := labels{}
	for e, label := range l {
		from, to := move(e.from), move(e.to)
		if from.row > to.row || from.row == to.row && from.k > to.k {
			from, to = to, from
		}
		m[edge{from, to}] = flip(label)
	}
	return m
}

// turned is the definition of RotatePuzzle: the top goes to the right end of the
// bottom; a step to the next row, in the direction of the left side, becomes one up
// in that of the right side; a step to the right becomes one to the next row.
func (l labels) turned(n int) labels {
	return l.moved(func(c corner) corner { return corner{n - c.row + c.k, n - c.row} }, func(label int) int { return label })
}

// mirrored is the definition of MirrorPuzzle.
func (l labels) mirrored() labels {
	return l.moved(func(c corner) corner { return corner{c.row, c.row - c.k} }, func(label int) int {
		return []int{1, 0, 2, 3}[label]
	})
}

// weight is the definition of the weight: each label 3 at the bottom of a small
// triangle is seen from the bottom of the whole triangle in two directions.
func (l labels) weight(n int, y []int) int {
	product := 1
	for _, t := range standing(n) {
		if l[t[2]] == 3 {
			from := t[2].from
			product *= y[from.k+n-from.row] - y[from.k]
		}
	}
	return product
}

func rightTriples(weighted bool) [][3]int {
	right := [][3]int{{0, 0, 0}, {1, 1, 1}, {0, 1, 2}, {1, 2, 0}, {2, 0, 1}}
	if weighted {
		right = append(right, [3]int{1, 0, 3})
	}
	return right
}

// isPuzzleByDefinition asks for all that makes a puzzle, or a weighted one.
func isPuzzleByDefinition(p impl.Puzzle, weighted bool) bool {
	if p.Size < 1 || p.Size > 7 {
		return false
	}
	count := len(standing(p.Size))
	if len(p.Left) != count || len(p.Right) != count || len(p.Bottom) != count {
		return false
	}
	l := labelsOf(p)
	for _, side := range sidesOf(p.Size) {
		for _, e := range side {
			if l[e] != 0 && l[e] != 1 {
				return false
			}
		}
	}
	for _, t := range append(standing(p.Size), onTips(p.Size)...) {
		if !slices.Contains(rightTriples(weighted), [3]int{l[t[0]], l[t[1]], l[t[2]]}) {
			return false
		}
	}
	return true
}

// puzzleFinder finds puzzles edge by edge, in strips along the right side of the
// whole triangle.
type puzzleFinder struct {
	n         int
	edges     []edge
	triangles map[edge][][3]edge
	right     [][3]int
}

func newPuzzleFinder(n int, weighted bool) puzzleFinder {
	f := puzzleFinder{n: n, triangles: map[edge][][3]edge{}, right: rightTriples(weighted)}
	for _, t := range append(standing(n), onTips(n)...) {
		for _, e := range t {
			f.triangles[e] = append(f.triangles[e], t)
		}
	}
	for e := range f.triangles {
		f.edges = append(f.edges, e)
	}
	strip := func(e edge) int { return e.from.row - e.from.k + e.to.row - e.to.k }
	slices.SortFunc(f.edges, func(a, b edge) int {
		return slices.Compare([]int{strip(a), a.from.row, a.to.row, a.to.k}, []int{strip(b), b.from.row, b.to.row, b.to.k})
	})
	return f
}

// mayBeRight reports whether the labels that are known at an edge may be completed.
func (f puzzleFinder) mayBeRight(l labels, e edge) bool {
	for _, t := range f.triangles[e] {
		if !slices.ContainsFunc(f.right, func(right [3]int) bool {
			for i, side := range t {
				if label, known := l[side]; known && label != right[i] {
					return false
				}
			}
			return true
		}) {
			return false
		}
	}
	return true
}

// find returns the puzzles with the first two sides a and b, in ascending order of
// their Right.
func (f puzzleFinder) find(a []int, b []int) []impl.Puzzle {
	l := labels{}
	sides := sidesOf(f.n)
	for i := range f.n {
		l[sides[0][i]], l[sides[1][i]] = a[i], b[i]
	}
	var found []impl.Puzzle
	var try func(edges []edge)
	try = func(edges []edge) {
		if len(edges) == 0 {
			found = append(found, l.puzzle(f.n))
			return
		}
		e := edges[0]
		if _, known := l[e]; known {
			if f.mayBeRight(l, e) {
				try(edges[1:])
			}
			return
		}
		for label := range 4 {
			if label > 1 && slices.Contains(sides[2], e) {
				break
			}
			l[e] = label
			if f.mayBeRight(l, e) {
				try(edges[1:])
			}
		}
		delete(l, e)
	}
	try(f.edges)
	slices.SortFunc(found, func(p, q impl.Puzzle) int { return slices.Compare(p.Right, q.Right) })
	return found
}

// puzzle reads what FormatPuzzle writes; it may be no puzzle.
func puzzle(s string) impl.Puzzle {
	lists := strings.Split(s, "/")
	p := impl.Puzzle{Left: numbers(lists[0]), Right: numbers(lists[1]), Bottom: numbers(lists[2])}
	for len(standing(p.Size)) < len(p.Left) {
		p.Size++
	}
	return p
}

func format(p impl.Puzzle) string {
	return impl.FormatInts(p.Left) + "/" + impl.FormatInts(p.Right) + "/" + impl.FormatInts(p.Bottom)
}

func copyOfPuzzle(p impl.Puzzle) impl.Puzzle {
	return impl.Puzzle{Size: p.Size, Left: slices.Clone(p.Left), Right: slices.Clone(p.Right), Bottom: slices.Clone(p.Bottom)}
}

// digits reads a string such as "0110".
func digits(s string) []int {
	l := []int{}
	for _, c := range s {
		l = append(l, int(c-'0'))
	}
	return l
}

// stringsWith returns the strings of n with k ones, in ascending order.
func stringsWith(k int, n int) [][]int {
	return slices.DeleteFunc(wordsOf(2, n), func(s []int) bool { return total(s) != k })
}

// pairOfStrings are two strings of one length with equally many ones.
type pairOfStrings struct{ a, b []int }

// pairsUpTo returns all pairs of the lengths from 1 to n.
func pairsUpTo(n int) []pairOfStrings {
	var all []pairOfStrings
	for size := 1; size <= n; size++ {
		for k := range size + 1 {
			for _, a := range stringsWith(k, size) {
				for _, b := range stringsWith(k, size) {
					all = append(all, pairOfStrings{a, b})
				}
			}
		}
	}
	return all
}

func reversed(l []int) []int {
	r := slices.Clone(l)
	slices.Reverse(r)
	return r
}

// flippedString exchanges zeros and ones, and the directions.
func flippedString(s []int) []int {
	r := reversed(s)
	for i, x := range r {
		r[i] = 1 - x
	}
	return r
}

// shapeOfDigits is the shape of a string: each one has as many cells as there are
// zeros before it.
func shapeOfDigits(s []int) []int {
	var shape []int
	for i, x := range s {
		if before := i - total(s[:i]); x == 1 && before > 0 {
			shape = append([]int{before}, shape...)
		}
	}
	return shape
}

// productInBox returns the shapes in the box of k and n with fillings over a with
// content b, by ShapeProduct; where it takes no such shapes, by the definition.
func productInBox(t *testing.T, a []int, b []int, k int, n int) []impl.Part {
	t.Helper()
	var l []impl.Part
	if total(a) <= 8 && total(b) <= 8 {
		for _, part := range product(t, a, b) {
			if len(part.Shape) <= k && rowOf(part.Shape, 0) <= n-k {
				l = append(l, part)
			}
		}
		return l
	}
	for _, c := range impl.ShapesIn(min(k, 6), min(n-k, 6)) {
		if count := fillingsByDefinition(a, b, c); count > 0 {
			l = append(l, impl.Part{Shape: c, Count: count})
		}
	}
	return l
}

// valueAt is the value of a polynomial at integers.
func valueAt(f []impl.Term, x []int) int {
	sum := 0
	for _, term := range f {
		product := term.Coef
		for i, exp := range term.Exp {
			for range exp {
				product *= x[i]
			}
		}
		sum += product
	}
	return sum
}

// fixedValues returns the values of the double Schubert polynomial of the shape of a
// string at the permutations of all shapes with as many rows, with y for the
// variables.
func fixedValues(t *testing.T, s []int, y []int) []int {
	t.Helper()
	k, n := total(s), len(s)
	f := must(t)(impl.DoubleSchubert(impl.GrassmannianPerm(shapeOfDigits(s), k, n), y))
	var values []int
	for _, shape := range impl.ShapesIn(k, n-k) {
		x := make([]int, 7)
		for i, place := range impl.GrassmannianPerm(shape, k, n) {
			x[i] = y[place]
		}
		values = append(values, valueAt(f, x))
	}
	return values
}

// weightShifts returns lists of n numbers from -9 to 9: those of someShifts, and more
// with numbers that are all different.
func weightShifts(n int) [][]int {
	all := someShifts(n)
	for _, s := range []string{"2 5 1 0 7", "9 8 7 6 5", "-9 -3 0 4 9", "3 -2 4 8 -7", "-9 9 -8 8 0"} {
		all = append(all, numbers(s)[:n])
	}
	return all
}

// notStrings returns lists that are no strings.
func notStrings() [][]int {
	all := [][]int{nil, {}, repeated(0, 8), repeated(1, 8), {0, 1, 0, 1, 0, 1, 0, 1}, repeated(0, 9), repeated(1, 100000), {0, 2}, {2, 0}, {1, -1}, {-1, 1}, {0, 1, 1, 0, 2}, {1, 0, 3}, {0, 0, 0, 0, 0, 0, 2}, {-1, 0, 0, 0, 0, 0, 0}}
	for _, x := range []int{-1, 2, 3, -2, 7, 48, 49, 256, 257, 1 << 32, 1<<32 + 1, math.MaxInt, math.MinInt} {
		all = append(all, []int{x}, []int{x, x}, []int{1, 0, x})
	}
	return all
}

// notPairs returns lists of which one at least is no string, or which have different
// lengths or different numbers of ones.
func notPairs() []pairOfStrings {
	all := []pairOfStrings{
		{[]int{0}, []int{1}}, {[]int{0}, []int{0, 0}}, {[]int{1}, []int{1, 0}}, {[]int{1, 0}, []int{1, 1}}, {[]int{0, 1}, []int{0, 0}}, {[]int{1, 0}, []int{1, 0, 0}}, {[]int{0, 1, 0, 1}, []int{0, 1, 0, 0}}, {repeated(0, 7), repeated(0, 6)}, {repeated(0, 7), repeated(1, 7)},
		{repeated(0, 5), repeated(0, 4)}, {repeated(1, 5), repeated(0, 5)}, {[]int{0, 0, 1, 1, 0, 1, 0}, []int{1, 1, 1, 0, 0, 1, 0}}, {[]int{0, 2}, []int{1, 1}}, {[]int{1, 1, -1}, []int{1, 0, 0}}, {[]int{2, -1}, []int{1, 0}},
	}
	for _, l := range notStrings() {
		all = append(all, pairOfStrings{l, l}, pairOfStrings{l, []int{1, 0}}, pairOfStrings{l, []int{0}})
	}
	for _, pair := range slices.Clone(all) {
		all = append(all, pairOfStrings{pair.b, pair.a})
	}
	return all
}

// notPuzzles returns what is no weighted puzzle.
func notPuzzles() []impl.Puzzle {
	good := puzzle("1 0 1/0 0 1/3 0 1")
	all := []impl.Puzzle{{}, {Size: 1}, {Size: 1, Left: []int{0}}, {Size: 1, Left: []int{0}, Right: []int{0}}, {Size: 1, Right: []int{0}, Bottom: []int{0}}, {Left: []int{0}, Right: []int{0}, Bottom: []int{0}}, {Size: 1, Left: []int{0, 0}, Right: []int{0}, Bottom: []int{0}}, {Size: 1, Left: []int{0}, Right: []int{0, 0}, Bottom: []int{0}}, {Size: 1, Left: []int{0}, Right: []int{0}, Bottom: []int{0, 0}}}
	for _, size := range []int{-1, 0, 1, 3, 7, 8, 64, 1 << 32, 1<<32 + 2, math.MaxInt, math.MinInt, -2, -3} {
		p := copyOfPuzzle(good)
		p.Size = size
		all = append(all, p, impl.Puzzle{Size: size})
	}
	for _, size := range []int{8, 9, 100} {
		count := size * (size + 1) / 2
		all = append(all, impl.Puzzle{Size: size, Left: repeated(0, count), Right: repeated(0, count), Bottom: repeated(0, count)}, impl.Puzzle{Size: size, Left: repeated(1, count), Right: repeated(1, count), Bottom: repeated(1, count)})
	}
	for _, label := range []int{-1, 2, 4, 5, 256, 1 << 32, math.MaxInt, math.MinInt} {
		for size := 1; size <= 7; size++ {
			l := repeated(label, size*(size+1)/2)
			all = append(all, impl.Puzzle{Size: size, Left: l, Right: l, Bottom: l})
		}
	}
	for _, s := range slices.Concat(brokenSides(), brokenStanding(), brokenTips()) {
		all = append(all, puzzle(s))
	}
	return append(all, changedLists(good)...)
}

// brokenSides have right triples alone, but a label other than 0 and 1 at a side.
func brokenSides() []string {
	return []string{"2/0/1", "1/2/0", "0/1/2", "1/0/3", "2 1 1/0 1 1/1 1 1", "1 0 0/2 0 0/0 0 0", "0 0 0/0 0 1/0 0 2", "0 1 0/0 0 0/0 3 0"}
}

// brokenStanding have one triple that is not right: that of a small triangle that
// stands on a side.
func brokenStanding() []string {
	return []string{"0/0/1", "0/1/0", "1/0/0", "1/1/0", "1/0/1", "0/1/1", "0 0 0/1 0 0/0 0 0", "1 0 0/0 0 0/0 0 0", "0 1 1/1 2 1/0 0 1"}
}

// brokenTips have one triple that is not right: that of a small triangle that stands
// on its tip.
func brokenTips() []string {
	return []string{
		"0 1 0/0 1 0/0 1 0", "0 0 1/0 0 1/0 0 1", "1 0 0/1 0 0/1 0 0", "1 1 1/0 1 1/3 1 1", "1 0 0/0 0 0/3 0 0", "1 1 0/0 1 0/3 1 0", "0 0 1/1 0 1/2 0 1", "0 1 0/1 2 0/2 0 0",
		"0 0 2/0 0 0/0 0 1", "0 1 1/1 2 1/2 0 1", "0 1 0/0 2 0/0 0 0",
	}
}

// changedLists returns what is left of a puzzle if one of its lists is too short or
// too long.
func changedLists(p impl.Puzzle) []impl.Puzzle {
	var all []impl.Puzzle
	for i := range 3 {
		for _, change := range []func([]int) []int{
			func(l []int) []int { return nil }, func(l []int) []int { return l[1:] }, func(l []int) []int { return l[:len(l)-1] }, func(l []int) []int { return append(l, 0) }, func(l []int) []int { return append([]int{0}, l...) }, func(l []int) []int { return repeated(0, 100000) },
		} {
			q := copyOfPuzzle(p)
			list := []*[]int{&q.Left, &q.Right, &q.Bottom}[i]
			*list = change(*list)
			all = append(all, q)
		}
	}
	return all
}
