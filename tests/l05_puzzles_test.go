package tests

import (
	"math"
	"slices"
	"testing"

	"loop.example/g03113/impl"
)

func TestLimitsOfPuzzles(t *testing.T) {
	is(t, "MaxPuzzles", text(impl.MaxPuzzles), "600")
	is(t, "Puzzle", text(impl.Puzzle{Size: 1, Left: []int{2}, Right: []int{3}, Bottom: []int{4}}), "{1 [2] [3] [4]}")
}

func TestIsString(t *testing.T) {
	for n := 1; n <= 7; n++ {
		for _, s := range wordsOf(2, n) {
			isTrue(t, text("IsString of", s), impl.IsString(s))
		}
	}
	for _, s := range notStrings() {
		isFalse(t, brief("IsString of", s), impl.IsString(s))
	}
}

func TestStringOfShapeOfFew(t *testing.T) {
	for _, c := range []struct {
		shape string
		k, n  int
		want  string
	}{
		{"1", 1, 2, "01"}, {"", 1, 2, "10"}, {"1", 2, 4, "1010"}, {"2 1", 2, 4, "0101"}, {"2 2", 2, 4, "0011"}, {"", 2, 4, "1100"}, {"1 1", 2, 4, "0110"}, {"2", 2, 4, "1001"}, {"", 0, 1, "0"}, {"", 1, 1, "1"}, {"", 0, 7, "0000000"}, {"", 7, 7, "1111111"},
		{"6", 1, 7, "0000001"}, {"1 1 1 1 1 1", 6, 7, "0111111"}, {"4 2 1", 3, 7, "0101001"}, {"3 3", 4, 7, "1100011"},
	} {
		what := text("StringOfShape of", c.shape, c.k, c.n)
		is(t, what, text(impl.StringOfShape(numbers(c.shape), c.k, c.n)), text(digits(c.want)))
		is(t, "ShapeOfString of that: "+what, text(impl.ShapeOfString(digits(c.want))), text(numbers(c.shape), c.k, true))
	}
}

// TestStringsInBoxes: the shapes in a box and the strings with as many ones belong
// together; places with a one are the first numbers of the GrassmannianPerm.
func TestStringsInBoxes(t *testing.T) {
	for n := 1; n <= 7; n++ {
		for k := range n + 1 {
			shapes := impl.ShapesIn(min(k, 6), min(n-k, 6))
			found := map[string]bool{}
			for _, shape := range shapes {
				s := impl.StringOfShape(shape, k, n)
				found[text(s)] = true
				w := impl.GrassmannianPerm(shape, k, n)
				for place, x := range s {
					is(t, text("StringOfShape of", shape, k, n, "at", place), text(x), text(btoi(slices.Contains(w[:k], place))))
				}
				is(t, text("the length of StringOfShape of", shape, k, n), text(len(s)), text(n))
				is(t, text("ShapeOfString of", s), text(impl.ShapeOfString(s)), text(shape, k, true))
			}
			is(t, text("the different strings for", k, n), text(len(found)), text(len(shapes)))
			for _, s := range stringsWith(k, n) {
				is(t, text("ShapeOfString of", s), text(impl.ShapeOfString(s)), text(shapeOfDigits(s), k, true))
				is(t, text("StringOfShape of that of", s), text(impl.StringOfShape(shapeOfDigits(s), k, n)), text(s))
			}
		}
	}
}

func TestStringsOutside(t *testing.T) {
	for _, s := range notStrings() {
		is(t, brief("ShapeOfString of", s), text(impl.ShapeOfString(s)), "[] 0 false")
	}
	for n := 1; n <= 7; n++ {
		for k := range n + 1 {
			for _, l := range append(notShapes(), repeated(1, k+1), []int{n - k + 1}, append([]int{n - k + 1}, repeated(1, k)...), repeated(16, 16)) {
				is(t, brief("StringOfShape of", l, k, n), text(impl.StringOfShape(l, k, n)), "[]")
			}
		}
		for _, k := range append(sizesOutside(), n+1) {
			is(t, text("StringOfShape of nothing in", k, n), text(impl.StringOfShape(nil, k, n)), "[]")
		}
	}
	for _, n := range append(sizesOutside(), 0, 8) {
		for _, k := range []int{0, 1, n, n - 1, math.MaxInt} {
			is(t, text("StringOfShape of nothing in", k, n), text(impl.StringOfShape(nil, k, n)), "[]")
		}
	}
}

func btoi(b bool) int {
	if b {
		return 1
	}
	return 0
}

func checkPuzzleOk(t *testing.T, p impl.Puzzle) {
	t.Helper()
	if got, want := impl.PuzzleOk(p), isPuzzleByDefinition(p, false); got != want {
		t.Errorf("PuzzleOk of %s: %v, want %v", brief(p), got, want)
	}
	if got, want := impl.WeightedOk(p), isPuzzleByDefinition(p, true); got != want {
		t.Errorf("WeightedOk of %s: %v, want %v", brief(p), got, want)
	}
}

// TestPuzzleOkOfSmall takes all labels from 0 to 3, and some others, at all sides: so
// each triple, right or not, is met at small triangles of both kinds.
func TestPuzzleOkOfSmall(t *testing.T) {
	for _, l := range wordsOf(6, 3) {
		checkPuzzleOk(t, impl.Puzzle{Size: 1, Left: []int{l[0] - 1}, Right: []int{l[1] - 1}, Bottom: []int{l[2] - 1}})
	}
	standingMet, tipsMet := map[[3]int]bool{}, map[[3]int]bool{}
	for _, l := range wordsOf(4, 9) {
		p := impl.Puzzle{Size: 2, Left: l[:3], Right: l[3:6], Bottom: l[6:]}
		checkPuzzleOk(t, p)
		if impl.WeightedOk(p) {
			for i := range 3 {
				standingMet[[3]int{l[i], l[3+i], l[6+i]}] = true
			}
			tipsMet[[3]int{l[2], l[4], l[6]}] = true
		}
	}
	for _, right := range rightTriples(true) {
		isTrue(t, text(right, "is met on a side"), standingMet[right])
		isTrue(t, text(right, "is met on a tip"), tipsMet[right])
	}
	is(t, "the triples that are met", text(len(standingMet), len(tipsMet)), "6 6")
}

// TestPuzzleOkOfTips takes all triangles of 3 whose small triangles on a side are
// right: those on their tips decide.
func TestPuzzleOkOfTips(t *testing.T) {
	right := rightTriples(true)
	wrong, found := 0, map[string][]impl.Puzzle{}
	for _, choice := range wordsOf(6, 6) {
		p := impl.Puzzle{Size: 3}
		for _, i := range choice {
			p.Left = append(p.Left, right[i][0])
			p.Right = append(p.Right, right[i][1])
			p.Bottom = append(p.Bottom, right[i][2])
		}
		checkPuzzleOk(t, p)
		if a, b, _, ok := impl.SidesOf(p); ok {
			found[text(a, b)] = append(found[text(a, b)], p)
		} else {
			wrong++
		}
	}
	for _, pair := range pairsUpTo(3) {
		if len(pair.a) == 3 {
			want := found[text(pair.a, pair.b)]
			slices.SortFunc(want, func(p, q impl.Puzzle) int { return slices.Compare(p.Right, q.Right) })
			is(t, text("WeightedPuzzles of", pair), text(impl.WeightedPuzzles(pair.a, pair.b)), text(want, true))
		}
	}
	isTrue(t, "most are no puzzles", wrong > 40000)
}

// TestPuzzleOkOfChanged changes puzzles at one label.
func TestPuzzleOkOfChanged(t *testing.T) {
	for i, pair := range pairsUpTo(7) {
		if len(pair.a) > 4 && i%97 > 0 {
			continue
		}
		for _, p := range newPuzzleFinder(len(pair.a), len(pair.a) <= 5).find(pair.a, pair.b) {
			checkPuzzleOk(t, p)
			isTrue(t, "WeightedOk of "+format(p), impl.WeightedOk(p))
			for place := range p.Left {
				for label := range 5 {
					for _, list := range [][]int{p.Left, p.Right, p.Bottom} {
						before := list[place]
						list[place] = label
						checkPuzzleOk(t, p)
						list[place] = before
					}
				}
			}
		}
	}
}

func TestPuzzleOkOfNone(t *testing.T) {
	for _, p := range notPuzzles() {
		isFalse(t, brief("isPuzzleByDefinition of", p.Size, p.Left, p.Right, p.Bottom), isPuzzleByDefinition(p, true))
		isFalse(t, brief("PuzzleOk of", p.Size, p.Left, p.Right, p.Bottom), impl.PuzzleOk(p))
		isFalse(t, brief("WeightedOk of", p.Size, p.Left, p.Right, p.Bottom), impl.WeightedOk(p))
		is(t, brief("SidesOf of", p.Size, p.Left, p.Right, p.Bottom), text(impl.SidesOf(p)), "[] [] [] false")
		is(t, brief("RotatePuzzle of", p.Size, p.Left, p.Right, p.Bottom), text(impl.RotatePuzzle(p)), "{0 [] [] []} false")
		is(t, brief("MirrorPuzzle of", p.Size, p.Left, p.Right, p.Bottom), text(impl.MirrorPuzzle(p)), "{0 [] [] []} false")
		is(t, brief("FormatPuzzle of", p.Size, p.Left, p.Right, p.Bottom), impl.FormatPuzzle(p), "")
		for n := range 8 {
			is(t, brief("PuzzleWeight of", p.Size, p.Left, p.Right, p.Bottom), text(impl.PuzzleWeight(p, make([]int, n))), "0 false")
		}
	}
	for size := 1; size <= 7; size++ {
		for label := range 2 {
			l := repeated(label, size*(size+1)/2)
			p := impl.Puzzle{Size: size, Left: l, Right: l, Bottom: l}
			isTrue(t, text("PuzzleOk of", p), impl.PuzzleOk(p))
			for _, q := range changedLists(p) {
				isFalse(t, brief("WeightedOk of", q.Size, q.Left, q.Right, q.Bottom), impl.WeightedOk(q))
				isFalse(t, brief("PuzzleOk of", q.Size, q.Left, q.Right, q.Bottom), impl.PuzzleOk(q))
			}
		}
	}
}

// TestBrokenPuzzles: each one is broken at one place only, as it says.
func TestBrokenPuzzles(t *testing.T) {
	flaws := func(p impl.Puzzle) [3]int {
		l, count := labelsOf(p), [3]int{}
		for _, e := range slices.Concat(sidesOf(p.Size)[0], sidesOf(p.Size)[1], sidesOf(p.Size)[2]) {
			count[0] += btoi(l[e] > 1)
		}
		for i, triangles := range [][][3]edge{standing(p.Size), onTips(p.Size)} {
			for _, s := range triangles {
				count[i+1] += btoi(!slices.Contains(rightTriples(true), [3]int{l[s[0]], l[s[1]], l[s[2]]}))
			}
		}
		return count
	}
	for i, list := range [][]string{brokenSides(), brokenStanding(), brokenTips()} {
		want := [3]int{}
		want[i] = 1
		for _, s := range list {
			is(t, "what is broken in "+s, text(flaws(puzzle(s))), text(want))
			isFalse(t, "WeightedOk of "+s, impl.WeightedOk(puzzle(s)))
			isFalse(t, "PuzzleOk of "+s, impl.PuzzleOk(puzzle(s)))
		}
	}
}

func TestPuzzlesOfFew(t *testing.T) {
	for _, c := range []struct {
		a, b, third string
		want        []string
	}{
		{"0", "0", "0", []string{"0/0/0"}}, {"1", "1", "1", []string{"1/1/1"}}, {"10", "10", "10", []string{"0 1 0/1 1 0/2 1 0"}}, {"01", "10", "01", []string{"1 0 2/1 0 0/1 0 1"}}, {"10", "01", "01", []string{"0 1 1/0 2 1/0 0 1"}}, {"01", "01", "", nil},
		{"010", "010", "001", []string{"0 1 1 0 0 2/0 2 1 0 0 0/0 0 1 0 0 1"}}, {"1010", "1010", "0110", []string{"0 1 0 0 2 0 1 1 1 0/1 1 0 0 0 1 2 1 1 0/2 1 0 0 1 2 0 1 1 0"}}, {"1010", "1010", "1001", []string{"0 1 0 0 1 1 1 0 0 2/1 1 0 1 2 1 1 0 0 0/2 1 0 2 0 1 1 0 0 1"}},
		{"101010", "101010", "010101", []string{
			"0 1 0 0 2 0 1 1 1 0 0 0 1 1 1 1 1 0 2 0 2/1 1 0 0 0 1 2 1 1 0 0 1 1 2 1 2 1 0 0 0 0/2 1 0 0 1 2 0 1 1 0 0 2 1 0 1 0 1 0 1 0 1",
			"0 1 0 0 1 1 1 0 0 2 0 2 0 0 1 1 1 1 1 0 2/1 1 0 1 2 1 1 0 0 0 0 0 0 1 1 2 1 2 1 0 0/2 1 0 2 0 1 1 0 0 1 0 1 0 2 1 0 1 0 1 0 1",
		}},
	} {
		if len(c.third) == 0 {
			is(t, text("PuzzlesOf of", c.a, c.b), text(impl.PuzzlesOf(digits(c.a), digits(c.b))), "[] true")
			continue
		}
		var got []string
		l, ok := impl.PuzzlesOf(digits(c.a), digits(c.b))
		isTrue(t, text("PuzzlesOf of", c.a, c.b, "succeeds"), ok)
		for _, p := range l {
			if _, _, third, _ := impl.SidesOf(p); slices.Equal(third, digits(c.third)) {
				got = append(got, impl.FormatPuzzle(p))
			}
		}
		is(t, text("PuzzlesOf of", c.a, c.b, "with", c.third), text(got), text(c.want))
	}
	for size := 1; size <= 7; size++ {
		for label := range 2 {
			side, l := repeated(label, size), repeated(label, size*(size+1)/2)
			is(t, text("PuzzlesOf of", side), text(impl.PuzzlesOf(side, side)), text([]impl.Puzzle{{Size: size, Left: l, Right: l, Bottom: l}}, true))
			is(t, text("CountPuzzles of", side), text(impl.CountPuzzles(side, side, side)), "1")
			is(t, text("PuzzleProduct of", side), text(impl.PuzzleProduct(side, side)), "[{[] 1}] true")
		}
	}
}

// TestPuzzlesByDefinition takes all pairs of strings, and counts no more puzzles than
// MaxPuzzles allows: the greatest numbers are far below it.
func TestPuzzlesByDefinition(t *testing.T) {
	most, mostWeighted := 0, 0
	for size := 1; size <= 7; size++ {
		finder, weighted := newPuzzleFinder(size, false), newPuzzleFinder(size, true)
		for _, pair := range pairsUpTo(size) {
			if len(pair.a) < size {
				continue
			}
			want := finder.find(pair.a, pair.b)
			is(t, text("PuzzlesOf of", pair), text(impl.PuzzlesOf(pair.a, pair.b)), text(want, true))
			most = max(most, len(want))
			if size <= 5 {
				want = weighted.find(pair.a, pair.b)
				is(t, text("WeightedPuzzles of", pair), text(impl.WeightedPuzzles(pair.a, pair.b)), text(want, true))
				mostWeighted = max(mostWeighted, len(want))
			}
		}
	}
	is(t, "the greatest numbers of puzzles and of weighted ones", text(most, mostWeighted), "6 14")
}

// TestSidesOfAll: the sides are those that are asked for, and they are strings with
// equally many ones; the puzzles are right, and in ascending order.
func TestSidesOfAll(t *testing.T) {
	for _, pair := range pairsUpTo(7) {
		l, ok := impl.PuzzlesOf(pair.a, pair.b)
		isTrue(t, text("PuzzlesOf of", pair, "succeeds"), ok)
		if len(pair.a) <= 5 {
			more, fine := impl.WeightedPuzzles(pair.a, pair.b)
			isTrue(t, text("WeightedPuzzles of", pair, "succeeds"), fine)
			for _, p := range more {
				is(t, "PuzzleOk of "+format(p), text(impl.PuzzleOk(p)), text(!slices.Contains(p.Bottom, 3)))
			}
			isTrue(t, text("WeightedPuzzles of", pair, "are in order"), slices.IsSortedFunc(more, func(p, q impl.Puzzle) int { return slices.Compare(p.Right, q.Right) }))
			l = append(l, more...)
		} else {
			isTrue(t, text("PuzzlesOf of", pair, "are in order"), slices.IsSortedFunc(l, func(p, q impl.Puzzle) int { return slices.Compare(p.Right, q.Right) }))
		}
		for _, p := range l {
			a, b, c, ok := impl.SidesOf(p)
			is(t, "SidesOf of "+format(p), text(a, b, c, ok), text(pair.a, pair.b, labelsOf(p).along(sidesOf(p.Size)[2]), true))
			isTrue(t, text("the third side is a string with as many ones as", pair), impl.IsString(c) && len(c) == len(a) && total(c) == total(a))
			is(t, "FormatPuzzle", impl.FormatPuzzle(p), format(p))
		}
	}
}

func TestPuzzlesOfNone(t *testing.T) {
	for _, pair := range notPairs() {
		what := brief("of", pair.a, pair.b)
		is(t, "PuzzlesOf "+what, text(impl.PuzzlesOf(pair.a, pair.b)), "[] false")
		is(t, "WeightedPuzzles "+what, text(impl.WeightedPuzzles(pair.a, pair.b)), "[] false")
		is(t, "PuzzleProduct "+what, text(impl.PuzzleProduct(pair.a, pair.b)), "[] false")
		for n := range 8 {
			is(t, "WeightedProduct "+what, text(impl.WeightedProduct(pair.a, pair.b, make([]int, n))), "[] false")
		}
		for _, c := range [][]int{pair.a, pair.b, {0}, {1, 0}, {1, 1, 0}, nil} {
			is(t, "CountPuzzles "+what, text(impl.CountPuzzles(pair.a, pair.b, c)), "-1")
			is(t, "CountPuzzles, the third one in front, "+what, text(impl.CountPuzzles(c, pair.a, pair.b)), "-1")
			is(t, "CountPuzzles, the third one between, "+what, text(impl.CountPuzzles(pair.a, c, pair.b)), "-1")
		}
	}
	for n := 6; n <= 7; n++ {
		for k := range n + 1 {
			for i, a := range stringsWith(k, n) {
				b := stringsWith(k, n)[len(stringsWith(k, n))-1-i]
				is(t, text("WeightedPuzzles of", a, b), text(impl.WeightedPuzzles(a, b)), "[] false")
				is(t, text("WeightedProduct of", a, b), text(impl.WeightedProduct(a, b, ascending(n))), "[] false")
			}
		}
	}
}

// TestCountPuzzles takes all third sides, and holds the numbers against fillings.
func TestCountPuzzles(t *testing.T) {
	for _, pair := range pairsUpTo(6) {
		k, n := total(pair.a), len(pair.a)
		want := map[string]int{}
		for _, part := range productInBox(t, shapeOfDigits(pair.a), shapeOfDigits(pair.b), k, n) {
			want[text(part.Shape)] = part.Count
		}
		for _, c := range stringsWith(k, n) {
			is(t, text("CountPuzzles of", pair, c), text(impl.CountPuzzles(pair.a, pair.b, c)), text(want[text(shapeOfDigits(c))]))
		}
	}
}

// TestCountPuzzlesTurned: the sides may go round, the first two may be exchanged, and
// so may be zeros and ones if all is reflected. The third side goes against the clock.
func TestCountPuzzlesTurned(t *testing.T) {
	for i, pair := range pairsUpTo(7) {
		a, b := pair.a, pair.b
		if len(a) == 7 && i%7 > 0 {
			continue
		}
		for _, c := range stringsWith(total(a), len(a)) {
			count := impl.CountPuzzles(a, b, c)
			what := text("CountPuzzles of", a, b, c)
			is(t, what+", turned", text(impl.CountPuzzles(reversed(c), a, reversed(b))), text(count))
			is(t, what+", turned back", text(impl.CountPuzzles(b, reversed(c), reversed(a))), text(count))
			is(t, what+", exchanged", text(impl.CountPuzzles(b, a, c)), text(count))
			is(t, what+", reflected", text(impl.CountPuzzles(flippedString(b), flippedString(a), flippedString(c))), text(count))
		}
	}
}

func TestPuzzleProductOfFew(t *testing.T) {
	for _, c := range []struct {
		a, b string
		k, n int
		want string
	}{
		{"1", "1", 2, 4, "1:1 1, 1:2"}, {"2 1", "2 1", 2, 4, "0"}, {"2 1", "1", 2, 4, "1:2 2"}, {"1 1", "2", 2, 4, "0"}, {"1 1", "1 1", 2, 4, "1:2 2"}, {"", "2 1", 2, 4, "1:2 1"}, {"2 1", "2 1", 3, 6, "1:2 2 2, 2:3 2 1, 1:3 3"}, {"", "", 0, 3, "1:"}, {"", "", 3, 3, "1:"}, {"", "", 1, 1, "1:"},
		{"1", "", 1, 2, "1:1"}, {"1", "1", 1, 2, "0"}, {"3", "3", 1, 7, "1:6"}, {"3", "4", 1, 7, "0"}, {"3 2 1", "2 1", 3, 7, "1:3 3 3, 2:4 3 2, 1:4 4 1"}, {"4 4 4", "", 3, 7, "1:4 4 4"}, {"4 4 4", "1", 3, 7, "0"}, {"2 1 1", "2 1 1", 4, 7, "1:2 2 2 2, 2:3 2 2 1, 1:3 3 1 1, 1:3 3 2"},
	} {
		a, b := impl.StringOfShape(numbers(c.a), c.k, c.n), impl.StringOfShape(numbers(c.b), c.k, c.n)
		l, ok := impl.PuzzleProduct(a, b)
		is(t, text("PuzzleProduct of", c.a, "and", c.b, "in", c.k, c.n), text(impl.FormatParts(l), ok), text(c.want, true))
	}
}

// TestPuzzleProductIsThatOfFillings takes all shapes in all boxes.
func TestPuzzleProductIsThatOfFillings(t *testing.T) {
	for _, pair := range pairsUpTo(7) {
		want := productInBox(t, shapeOfDigits(pair.a), shapeOfDigits(pair.b), total(pair.a), len(pair.a))
		is(t, text("PuzzleProduct of", pair), text(impl.PuzzleProduct(pair.a, pair.b)), text(want, true))
	}
}

// TestPuzzleProductCountsSides holds it against the puzzles and their third sides.
func TestPuzzleProductCountsSides(t *testing.T) {
	for _, pair := range pairsUpTo(6) {
		l, _ := impl.PuzzlesOf(pair.a, pair.b)
		counts := map[string]int{}
		for _, p := range l {
			_, _, c, _ := impl.SidesOf(p)
			shape, _, _ := impl.ShapeOfString(c)
			counts[impl.FormatInts(shape)]++
		}
		is(t, text("PuzzleProduct of", pair), text(impl.PuzzleProduct(pair.a, pair.b)), text(partsOfShapes(counts), true))
	}
}
