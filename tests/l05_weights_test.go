package tests

import (
	"math"
	"slices"
	"testing"

	"loop.example/g03113/impl"
)

func TestRotateAndMirrorOfFew(t *testing.T) {
	for _, c := range []struct{ puzzle, turned, mirrored string }{
		{"0/0/0", "0/0/0", "1/1/1"}, {"0 1 0/1 1 0/2 1 0", "1 0 2/1 0 0/1 0 1", "0 1 0/1 1 0/2 1 0"}, {"1 0 2/1 0 0/1 0 1", "0 1 1/0 2 1/0 0 1", "0 1 1/0 2 1/0 0 1"}, {"0 1 1/0 2 1/0 0 1", "0 1 0/1 1 0/2 1 0", "1 0 2/1 0 0/1 0 1"},
		{"0 1 1 0 0 2/0 2 1 0 0 0/0 0 1 0 0 1", "0 0 0 1 1 0/0 0 1 2 1 0/0 0 2 0 1 0", "1 0 2 1 1 1/1 0 0 2 1 1/1 0 1 0 1 1"},
		{"0 1 0 0 2 0 1 1 1 0/1 1 0 0 0 1 2 1 1 0/2 1 0 0 1 2 0 1 1 0", "0 1 0 1 1 1 0 2 0 2/1 1 0 1 2 1 0 0 0 0/2 1 0 1 0 1 0 1 0 1", "0 1 0 0 1 1 1 0 0 2/1 1 0 1 2 1 1 0 0 0/2 1 0 2 0 1 1 0 0 1"},
		{"1 0 1/0 0 1/3 0 1", "", "1 0 1/0 0 1/3 0 1"},
	} {
		p := puzzle(c.puzzle)
		turned, ok := impl.RotatePuzzle(p)
		is(t, "RotatePuzzle of "+c.puzzle, text(impl.FormatPuzzle(turned), ok), text(c.turned, len(c.turned) > 0))
		mirrored, ok := impl.MirrorPuzzle(p)
		is(t, "MirrorPuzzle of "+c.puzzle, text(impl.FormatPuzzle(mirrored), ok), text(c.mirrored, true))
	}
	is(t, "RotatePuzzle of a puzzle with the label 3", text(impl.RotatePuzzle(puzzle("1 0 1/0 0 1/3 0 1"))), "{0 [] [] []} false")
}

// weightedOf returns all weighted puzzles with sides up to 5, and some with sides of
// 6 and of 7, with the label 3 and without.
func weightedOf() []impl.Puzzle {
	var all []impl.Puzzle
	for _, pair := range pairsUpTo(5) {
		all = append(all, newPuzzleFinder(len(pair.a), true).find(pair.a, pair.b)...)
	}
	for _, pair := range []struct{ a, b string }{{"010101", "010101"}, {"001011", "010110"}, {"100101", "001011"}, {"0010110", "0101010"}, {"1001010", "0001101"}, {"0101001", "0010101"}} {
		all = append(all, newPuzzleFinder(len(pair.a), true).find(digits(pair.a), digits(pair.b))...)
	}
	for _, pair := range pairsUpTo(7) {
		if len(pair.a) > 5 {
			l, _ := impl.PuzzlesOf(pair.a, pair.b)
			all = append(all, l...)
		}
	}
	return all
}

// TestRotateAndMirrorOfAll holds them against the definitions in the plane, turns
// three times, reflects twice, and looks at the sides.
func TestRotateAndMirrorOfAll(t *testing.T) {
	plain, weighted := 0, 0
	for _, p := range weightedOf() {
		what := format(p)
		isTrue(t, "WeightedOk of "+what, impl.WeightedOk(p))
		a, b, c, _ := impl.SidesOf(p)
		mirrored, ok := impl.MirrorPuzzle(p)
		is(t, "MirrorPuzzle of "+what, text(mirrored, ok), text(labelsOf(p).mirrored().puzzle(p.Size), true))
		is(t, "SidesOf of MirrorPuzzle of "+what, text(impl.SidesOf(mirrored)), text(flippedString(b), flippedString(a), flippedString(c), true))
		is(t, "MirrorPuzzle of that of "+what, text(impl.MirrorPuzzle(mirrored)), text(p, true))
		if slices.Contains(p.Bottom, 3) {
			weighted++
			isFalse(t, "PuzzleOk of "+what, impl.PuzzleOk(p))
			is(t, "RotatePuzzle of "+what, text(impl.RotatePuzzle(p)), "{0 [] [] []} false")
			continue
		}
		plain++
		isTrue(t, "PuzzleOk of "+what, impl.PuzzleOk(p) && impl.PuzzleOk(mirrored))
		turned, ok := impl.RotatePuzzle(p)
		is(t, "RotatePuzzle of "+what, text(turned, ok), text(labelsOf(p).turned(p.Size).puzzle(p.Size), true))
		is(t, "SidesOf of RotatePuzzle of "+what, text(impl.SidesOf(turned)), text(reversed(c), a, reversed(b), true))
		again, _ := impl.RotatePuzzle(turned)
		is(t, "RotatePuzzle, three times, of "+what, text(impl.RotatePuzzle(again)), text(p, true))
		back, _ := impl.MirrorPuzzle(again)
		other, _ := impl.RotatePuzzle(mirrored)
		is(t, "MirrorPuzzle of two turns, and one turn of MirrorPuzzle, of "+what, text(back), text(other))
	}
	isTrue(t, text("there are puzzles of both kinds:", plain, weighted), plain > 2500 && weighted > 1000)
}

func TestPuzzleWeightOfFew(t *testing.T) {
	for _, c := range []struct{ puzzle, y, want string }{
		{"1 0 1/0 0 1/3 0 1", "2 5", "3 true"}, {"1 0 1/0 0 1/3 0 1", "5 2", "-3 true"}, {"1 0 1/0 0 1/3 0 1", "4 4", "0 true"}, {"1 0 1/0 0 1/3 0 1", "-9 9", "18 true"}, {"1 0 1/0 0 1/3 0 1", "-10 9", "0 false"}, {"1 0 1/0 0 1/3 0 1", "-9 10", "0 false"}, {"1 0 1/0 0 1/3 0 1", "9 -10", "0 false"},
		{"1 0 1/0 0 1/3 0 1", "2", "0 false"}, {"1 0 1/0 0 1/3 0 1", "2 5 0", "0 false"}, {"1 0 1/0 0 1/3 0 1", "", "0 false"}, {"0/0/0", "", "0 false"}, {"0/0/0", "9", "1 true"}, {"1/1/1", "-9", "1 true"}, {"1/1/1", "10", "0 false"}, {"1/1/1", "-10", "0 false"}, {"1/1/1", "0 0", "0 false"},
		{"0 1 0/1 1 0/2 1 0", "-3 8", "1 true"}, {"1 0 1 0 0 1/0 0 0 0 0 1/3 0 3 0 0 1", "1 3 9", "48 true"}, {"0 1 0 0 1 1/0 0 0 0 2 1/0 3 0 0 0 1", "1 3 9", "2 true"}, {"0 1 1 0 0 1/0 2 0 0 0 1/0 0 3 0 0 1", "1 3 9", "6 true"},
	} {
		is(t, text("PuzzleWeight of", c.puzzle, "with", c.y), text(impl.PuzzleWeight(puzzle(c.puzzle), numbers(c.y))), c.want)
	}
	for _, far := range []int{10, -10, 11, 1 << 32, math.MaxInt, math.MinInt} {
		for i := range 5 {
			y := []int{1, 2, 3, 4, 5}
			y[i] = far
			zeros := repeated(0, 15)
			is(t, text("PuzzleWeight of zeros with", y), text(impl.PuzzleWeight(impl.Puzzle{Size: 5, Left: zeros, Right: zeros, Bottom: zeros}, y)), "0 false")
			is(t, text("WeightedProduct with", y), text(impl.WeightedProduct(digits("01010"), digits("10010"), y)), "[] false")
		}
	}
}

// TestPuzzleWeightByDefinition takes weighted puzzles with sides up to 5; all others
// have no weight.
func TestPuzzleWeightByDefinition(t *testing.T) {
	for _, p := range weightedOf() {
		if n := p.Size; n > 5 {
			is(t, "PuzzleWeight of "+format(p), text(impl.PuzzleWeight(p, ascending(n))), "0 false")
			is(t, "PuzzleWeight, with 5 numbers, of "+format(p), text(impl.PuzzleWeight(p, ascending(5))), "0 false")
			continue
		}
		for _, y := range weightShifts(p.Size) {
			is(t, text("PuzzleWeight of", format(p), "with", y), text(impl.PuzzleWeight(p, y)), text(labelsOf(p).weight(p.Size, y), true))
		}
		for n := range 9 {
			is(t, text("PuzzleWeight of", format(p), "succeeds with", n), text(impl.PuzzleWeight(p, repeated(1, n))), text(btoi(n == p.Size && !slices.Contains(p.Bottom, 3)), n == p.Size))
		}
	}
}

// turnedShifts are the numbers that give a reflected puzzle the weight that the
// puzzle has with y.
func turnedShifts(y []int) []int {
	z := reversed(y)
	for i := range z {
		z[i] = -z[i]
	}
	return z
}

func TestPuzzleWeightMirrored(t *testing.T) {
	for _, p := range weightedOf() {
		if p.Size <= 5 {
			mirrored, _ := impl.MirrorPuzzle(p)
			for _, y := range weightShifts(p.Size) {
				is(t, text("PuzzleWeight of the reflected", format(p), "with", y), text(impl.PuzzleWeight(mirrored, turnedShifts(y))), text(impl.PuzzleWeight(p, y)))
			}
		}
	}
}

func weightedProduct(t *testing.T, a []int, b []int, y []int) []impl.Part {
	t.Helper()
	l, ok := impl.WeightedProduct(a, b, y)
	isTrue(t, text("WeightedProduct of", a, b, y, "succeeds"), ok)
	return l
}

func TestWeightedProductOfFew(t *testing.T) {
	for _, c := range []struct{ a, b, y, want string }{
		{"01", "01", "2 5", "3:1"}, {"01", "01", "5 2", "-3:1"}, {"01", "01", "4 4", "0"}, {"01", "10", "2 5", "1:1"}, {"10", "10", "2 5", "1:"}, {"0", "0", "9", "1:"}, {"1", "1", "-9", "1:"}, {"00000", "00000", "-9 9 0 0 1", "1:"}, {"11111", "11111", "9 -9 0 0 1", "1:"},
		// a line and a point of the plane; the weights of two puzzles may add up to 0
		{"010", "010", "1 3 9", "2:1, 1:2"}, {"010", "001", "1 3 9", "8:2"}, {"001", "001", "1 3 9", "48:2"}, {"010", "010", "3 3 9", "1:2"}, {"010", "001", "0 5 0", "0"}, {"010", "001", "9 -9 9", "0"}, {"010", "001", "0 5 1", "1:2"},
		// the shape of one cell, in the box of 2 and 4
		{"1010", "1010", "1 3 9 4", "6:1, 1:1 1, 1:2"}, {"1010", "1010", "1 3 3 4", "1:1 1, 1:2"}, {"0011", "0011", "0 1 2 3", "12:2 2"}, {"0011", "0011", "-9 -9 9 9", "104976:2 2"}, {"00011", "00011", "-9 -9 -9 9 9", "34012224:3 3"}, {"00111", "00111", "9 9 -9 -9 -9", "34012224:2 2 2"},
	} {
		is(t, text("WeightedProduct of", c.a, c.b, c.y), impl.FormatParts(weightedProduct(t, digits(c.a), digits(c.b), numbers(c.y))), c.want)
	}
}

// TestWeightedProductIsSumOfWeights finds the puzzles by the definition; some weights
// that are not 0 add up to 0.
func TestWeightedProductIsSumOfWeights(t *testing.T) {
	gone := 0
	for _, pair := range pairsUpTo(5) {
		n := len(pair.a)
		puzzles := newPuzzleFinder(n, true).find(pair.a, pair.b)
		for _, y := range weightShifts(n) {
			sums, met := map[string]int{}, map[string]bool{}
			for _, p := range puzzles {
				l := labelsOf(p)
				shape := impl.FormatInts(shapeOfDigits(l.along(sidesOf(n)[2])))
				sums[shape] += l.weight(n, y)
				met[shape] = met[shape] || l.weight(n, y) != 0
			}
			for shape, sum := range sums {
				if sum == 0 && met[shape] {
					gone++
				}
			}
			is(t, text("WeightedProduct of", pair, y), text(impl.WeightedProduct(pair.a, pair.b, y)), text(partsOfShapes(sums), true))
		}
	}
	isTrue(t, text("weights that are not 0 add up to 0:", gone), gone > 0)
}

// TestWeightedProductBeginsWithPlain: where sizes add, weights are 1; if all numbers
// are equal, there is nothing else.
func TestWeightedProductBeginsWithPlain(t *testing.T) {
	for _, pair := range pairsUpTo(5) {
		plain, _ := impl.PuzzleProduct(pair.a, pair.b)
		size := total(shapeOfDigits(pair.a)) + total(shapeOfDigits(pair.b))
		for _, y := range weightShifts(len(pair.a)) {
			l := weightedProduct(t, pair.a, pair.b, y)
			isTrue(t, text("WeightedProduct of", pair, y, "is in order"), impl.PartsOk(l))
			is(t, text("WeightedProduct, exchanged, of", pair, y), text(weightedProduct(t, pair.b, pair.a, y)), text(l))
			isLess := func(part impl.Part) bool { return total(part.Shape) < size }
			is(t, text("WeightedProduct, where sizes add, of", pair, y), text(slices.DeleteFunc(slices.Clone(l), isLess)), text(plain))
			if slices.Max(y) == slices.Min(y) {
				is(t, text("WeightedProduct of", pair, y), text(l), text(plain))
			}
		}
	}
}

// TestWeightedProductMirrored: rows and columns may be exchanged.
func TestWeightedProductMirrored(t *testing.T) {
	for _, pair := range pairsUpTo(5) {
		for _, y := range weightShifts(len(pair.a)) {
			counts := map[string]int{}
			for _, part := range weightedProduct(t, pair.a, pair.b, y) {
				counts[impl.FormatInts(conjugate(part.Shape))] = part.Count
			}
			is(t, text("WeightedProduct, reflected, of", pair, y), text(impl.WeightedProduct(flippedString(pair.b), flippedString(pair.a), turnedShifts(y))), text(partsOfShapes(counts), true))
		}
	}
}

// TestWeightedProductIsThatOfValues: at each permutation of a shape, the value of a
// times that of b is the sum of the values of the shapes, with their weights.
func TestWeightedProductIsThatOfValues(t *testing.T) {
	for n := 1; n <= 5; n++ {
		for _, y := range weightShifts(n) {
			for k := range n + 1 {
				values := map[string][]int{}
				for _, s := range stringsWith(k, n) {
					values[text(shapeOfDigits(s))] = fixedValues(t, s, y)
				}
				for _, a := range stringsWith(k, n) {
					for _, b := range stringsWith(k, n) {
						rest := make([]int, len(values))
						for i := range rest {
							rest[i] = values[text(shapeOfDigits(a))][i] * values[text(shapeOfDigits(b))][i]
						}
						for _, part := range weightedProduct(t, a, b, y) {
							for i, value := range values[text(part.Shape)] {
								rest[i] -= part.Count * value
							}
						}
						is(t, text("the values that WeightedProduct leaves of", a, b, y), text(rest), text(make([]int, len(values))))
					}
				}
			}
		}
	}
}

func TestWeightedProductOutside(t *testing.T) {
	for _, pair := range pairsUpTo(5) {
		n := len(pair.a)
		for length := range 9 {
			_, ok := impl.WeightedProduct(pair.a, pair.b, repeated(1, length))
			is(t, text("WeightedProduct succeeds for", pair, "with so many numbers:", length), text(ok), text(length == n))
		}
		for _, x := range []int{-9, 9, -10, 10} {
			_, ok := impl.WeightedProduct(pair.a, pair.b, append(repeated(0, n-1), x))
			is(t, text("WeightedProduct succeeds for", pair, "with", x), text(ok), text(x == 9 || x == -9))
			_, ok = impl.WeightedProduct(pair.a, pair.b, append([]int{x}, repeated(0, n-1)...))
			is(t, text("WeightedProduct succeeds for", pair, "with", x, "in front"), text(ok), text(x == 9 || x == -9))
		}
		is(t, text("WeightedProduct without numbers of", pair), text(impl.WeightedProduct(pair.a, pair.b, nil)), "[] false")
	}
}
