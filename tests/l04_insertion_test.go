package tests

import (
	"math"
	"math/rand/v2"
	"slices"
	"testing"

	"loop.example/g03113/impl"
)

func TestInsertNumberIntoFew(t *testing.T) {
	for _, c := range []struct {
		tableau string
		x       int
		want    string
	}{
		{"0 1 1 3, 2 2", 1, "[[0 1 1 1] [2 2 3]] 1 true"}, {"0 1 1 3, 2 2", 0, "[[0 0 1 3] [1 2] [2]] 2 true"}, {"0 1 1 3, 2 2", 3, "[[0 1 1 3 3] [2 2]] 0 true"}, {"0 1 1 3, 2 2", 20, "[[0 1 1 3 20] [2 2]] 0 true"}, {"1", 0, "[[0] [1]] 1 true"}, {"0", 0, "[[0 0]] 0 true"},
		{"0 2, 3", 1, "[[0 1] [2] [3]] 2 true"}, {"0 2, 1", 1, "[[0 1] [1 2]] 1 true"}, {"0 1", 0, "[[0 0] [1]] 1 true"}, {"0 20, 20", 19, "[[0 19] [20 20]] 1 true"}, {"20", 20, "[[20 20]] 0 true"}, {"20", 0, "[[0] [20]] 1 true"},
	} {
		is(t, text("InsertNumber into", c.tableau, "of", c.x), text(impl.InsertNumber(rows(c.tableau), c.x)), c.want)
	}
	for _, x := range []int{0, 1, 19, 20} {
		is(t, text("InsertNumber into nothing of", x), text(impl.InsertNumber(nil, x)), text([][]int{{x}}, 0, true))
	}
	for _, x := range []int{-1, -2, 21, 22, 1 << 32, math.MaxInt, math.MinInt} {
		for _, tableau := range [][][]int{nil, rows("0"), rows("0 20, 20")} {
			is(t, text("InsertNumber into", tableau, "of", x), text(impl.InsertNumber(tableau, x)), "[] 0 false")
		}
	}
	for _, tableau := range notTableaux() {
		for _, x := range []int{0, 20, 21} {
			is(t, brief("InsertNumber into", tableau, "of", x), text(impl.InsertNumber(tableau, x)), "[] 0 false")
		}
	}
}

// TestInsertNumberAtLimits: rows of MaxPart numbers, and MaxPart rows, may be kept,
// but must not grow.
func TestInsertNumberAtLimits(t *testing.T) {
	column := func(from int, to int) [][]int { return transposed([][]int{ascending(to + 1)[from:]}) }
	for _, c := range []struct {
		name    string
		tableau [][]int
		x       int
		row     int
	}{
		{"15 numbers", [][]int{repeated(4, 15)}, 4, 0}, {"16 numbers", [][]int{repeated(4, 16)}, 4, -1}, {"16 numbers", [][]int{repeated(4, 16)}, 20, -1}, {"16 numbers", [][]int{repeated(4, 16)}, 3, 1}, {"two rows of 16", [][]int{repeated(4, 16), repeated(5, 16)}, 3, 2},
		{"two rows of 16", [][]int{repeated(4, 16), repeated(5, 16)}, 5, -1}, {"16 and 15", [][]int{repeated(4, 16), repeated(5, 15)}, 3, 2}, {"15 rows", column(1, 15), 0, 15}, {"16 rows", column(1, 16), 0, -1}, {"16 rows", column(0, 15), 0, 0}, {"16 rows", column(5, 20), 20, 0}, {"16 rows", column(5, 20), 4, -1},
		{"16 rows", column(5, 20), 12, 0}, {"16 rows", append([][]int{{0, 2}}, column(2, 16)...), 1, 1}, {"16 rows", append([][]int{{0, 0}}, column(1, 15)...), 0, 0},
	} {
		what := text("InsertNumber into", c.name, "of", c.x)
		got, row, ok := impl.InsertNumber(c.tableau, c.x)
		if c.row < 0 {
			is(t, what, text(got, row, ok), "[] 0 false")
			continue
		}
		want, _ := put(copyOf(c.tableau), c.x, false)
		is(t, what, text(got, row, ok), text(want, c.row, true))
	}
}

func TestInsertNumberByDefinition(t *testing.T) {
	for _, shape := range shapesUpTo(6) {
		tableaux := tableauxFrom(shape, 3)
		for i, tableau := range tableaux {
			if i%3 == len(shape)%3 || len(tableaux) < 30 {
				for x := range 4 {
					want, row := put(copyOf(tableau), x, false)
					is(t, text("InsertNumber into", tableau, "of", x), text(impl.InsertNumber(tableau, x)), text(want, row, true))
				}
			}
		}
	}
}

func TestRskOfFew(t *testing.T) {
	for s, want := range map[string]string{
		"": "[] [] true", "0": "[[0]] [[0]] true", "20": "[[20]] [[0]] true", "1 0 2": "[[0 2] [1]] [[0 2] [1]] true", "2 0 1": "[[0 1] [2]] [[0 2] [1]] true", "1 2 0": "[[0 2] [1]] [[0 1] [2]] true", "0 0 0": "[[0 0 0]] [[0 1 2]] true", "1 0 0": "[[0 0] [1]] [[0 2] [1]] true",
		"20 10 20 10 0": "[[0 10] [10 20] [20]] [[0 2] [1 3] [4]] true", "0 1 0": "[[0 0] [1]] [[0 1] [2]] true", "2 1 0": "[[0] [1] [2]] [[0] [1] [2]] true",
	} {
		is(t, "RskOf "+s, text(impl.RskOf(numbers(s))), want)
	}
	down := slices.Clone(ascending(16))
	slices.Reverse(down)
	is(t, "RskOf 16 numbers that ascend", text(impl.RskOf(ascending(16))), text([][]int{ascending(16)}, [][]int{ascending(16)}, true))
	is(t, "RskOf 16 numbers that descend", text(impl.RskOf(down)), text(transposed([][]int{ascending(16)}), transposed([][]int{ascending(16)}), true))
	is(t, "RskOf 16 times 20", text(impl.RskOf(repeated(20, 16))), text([][]int{repeated(20, 16)}, [][]int{ascending(16)}, true))
}

func TestRskOfNone(t *testing.T) {
	bad := [][]int{ascending(17), repeated(0, 17), repeated(20, 17), repeated(0, 18), repeated(0, 100000), append(repeated(3, 15), 21), append([]int{-1}, repeated(3, 15)...), append(repeated(3, 16), 21)}
	for _, x := range []int{-1, -2, 21, 22, 256, 1 << 32, math.MaxInt, math.MinInt} {
		bad = append(bad, []int{x}, []int{0, x}, []int{x, 0}, []int{1, x, 2}, repeated(x, 16))
	}
	for _, word := range bad {
		is(t, brief("RskOf", word), text(impl.RskOf(word)), "[] [] false")
	}
}

func TestRskOfByDefinition(t *testing.T) {
	words := append(wordsOf(3, 5), wordsOf(2, 8)...)
	source := rand.New(rand.NewPCG(4, 41))
	for range 500 {
		word := make([]int, source.IntN(17))
		for i := range word {
			word[i] = source.IntN(21)
		}
		words = append(words, word)
	}
	for _, word := range words {
		wantP, wantQ := putAll(word, false)
		p, q, ok := impl.RskOf(word)
		is(t, text("RskOf", word), text(p, q, ok), text(wantP, wantQ, true))
		isTrue(t, text("RskOf", word, "returns tableaux"), impl.TableauOk(p) && impl.TableauOk(q))
		isStandard(t, text("RskOf", word), p, q)
	}
}

// isStandard checks that both tableaux have one shape, and the second one has each
// number once.
func isStandard(t *testing.T, what string, p [][]int, q [][]int) {
	t.Helper()
	is(t, what+": the shapes", text(shapeOf(q)), text(shapeOf(p)))
	word := slices.Concat(q...)
	slices.Sort(word)
	is(t, what+": the numbers of the second tableau", text(word), text(ascending(len(word))))
}

// TestRskOfInverse: the tableaux of a permutation are those of its inverse, the
// other way round.
func TestRskOfInverse(t *testing.T) {
	for _, w := range permsUpTo(7) {
		p, q, ok := impl.RskOf(w)
		isTrue(t, text("RskOf", w, "succeeds"), ok)
		is(t, text("RskOf the inverse of", w), text(impl.RskOf(impl.InversePerm(w))), text(q, p, true))
	}
}

// TestRskOfIsOneToOne: there are as many pairs as permutations, and as many words
// with one first tableau as StandardCount says.
func TestRskOfIsOneToOne(t *testing.T) {
	for n := 1; n <= 6; n++ {
		checkPairs(t, text("permutations of", n), permsOf(n))
		squares := 0
		for _, shape := range shapesOf(n, n) {
			squares += impl.StandardCount(shape) * impl.StandardCount(shape)
		}
		is(t, text("the sum of squares for", n), text(squares), text(len(permsOf(n))))
	}
	for length := range 7 {
		checkPairs(t, text("words of", length), wordsOf(3, length))
	}
}

func checkPairs(t *testing.T, what string, words [][]int) {
	t.Helper()
	pairs := map[string]bool{}
	with := map[string]int{}
	shapes := map[string][]int{}
	for _, word := range words {
		p, q, _ := impl.RskOf(word)
		pairs[text(p, q)] = true
		with[text(p)]++
		shapes[text(p)] = shapeOf(p)
	}
	is(t, "the number of pairs for "+what, text(len(pairs)), text(len(words)))
	for p, count := range with {
		is(t, text("the words with", p, "among", what), text(count), text(impl.StandardCount(shapes[p])))
	}
}

// TestRskOfLongestParts: the first row is as long as the longest part of the word
// that does not descend, the first column as the longest that descends.
func TestRskOfLongestParts(t *testing.T) {
	for _, word := range append(permsOf(6), wordsOf(3, 6)...) {
		p, _, _ := impl.RskOf(word)
		level := longestPart(word, func(x, y int) bool { return x <= y })
		falling := longestPart(word, func(x, y int) bool { return x > y })
		is(t, text("the sides of RskOf", word), text(len(p[0]), len(p)), text(level, falling))
	}
}

func longestPart(word []int, mayFollow func(x, y int) bool) int {
	best := make([]int, len(word))
	for i, y := range word {
		for j, x := range word[:i] {
			if mayFollow(x, y) {
				best[i] = max(best[i], best[j])
			}
		}
		best[i]++
	}
	return slices.Max(best)
}

func TestEdelmanGreeneOfFew(t *testing.T) {
	for _, c := range []struct {
		n    int
		word string
		want string
	}{
		{1, "", "[] [] true"}, {7, "", "[] [] true"}, {2, "0", "[[0]] [[0]] true"}, {3, "0 1", "[[0 1]] [[0 1]] true"}, {3, "1 0", "[[0] [1]] [[0] [1]] true"}, {3, "0 1 0", "[[0 1] [1]] [[0 1] [2]] true"}, {3, "1 0 1", "[[0 1] [1]] [[0 2] [1]] true"},
		{4, "0 1 2 0", "[[0 1 2] [1]] [[0 1 2] [3]] true"}, {4, "0 1 2 0 1", "[[0 1 2] [1 2]] [[0 1 2] [3 4]] true"}, {4, "0 1 2 0 1 0", "[[0 1 2] [1 2] [2]] [[0 1 2] [3 4] [5]] true"}, {4, "1 0 2", "[[0 2] [1]] [[0 2] [1]] true"}, {4, "0 2", "[[0 2]] [[0 1]] true"}, {4, "2 0", "[[0] [2]] [[0] [1]] true"},
		{4, "0 2 1", "[[0 1] [2]] [[0 1] [2]] true"}, {4, "1 2 1", "[[1 2] [2]] [[0 1] [2]] true"}, {7, "5 4 3 2 1 0", "[[0] [1] [2] [3] [4] [5]] [[0] [1] [2] [3] [4] [5]] true"},
	} {
		is(t, text("EdelmanGreene of", c.n, c.word), text(impl.EdelmanGreene(c.n, numbers(c.word))), c.want)
	}
}

// longestWord is a reduced word of the longest permutation of n.
func longestWord(n int) []int {
	var word []int
	for i := range n {
		for k := i - 1; k >= 0; k-- {
			word = append(word, k)
		}
	}
	return word
}

// TestEdelmanGreeneOfLongest: words may be longer than those of RskOf.
func TestEdelmanGreeneOfLongest(t *testing.T) {
	for n := 1; n <= 7; n++ {
		up := longestWord(n)
		down := slices.Clone(up)
		slices.Reverse(down)
		var stairs [][]int
		for i := range n - 1 {
			stairs = append(stairs, ascending(n - 1)[i:])
		}
		for _, word := range [][]int{up, down} {
			p, q, ok := impl.EdelmanGreene(n, word)
			is(t, text("the first tableau of EdelmanGreene of", n, word), text(p, ok), text(stairs, true))
			isStandard(t, text("EdelmanGreene of", n, word), p, q)
			isTrue(t, text("EdelmanGreene of", n, word, "returns a second tableau"), impl.TableauOk(q))
		}
	}
}

// TestEdelmanGreeneOfBeginnings takes words of MaxPart numbers, of one more, and of
// all other lengths.
func TestEdelmanGreeneOfBeginnings(t *testing.T) {
	for length := range 22 {
		word := longestWord(7)[:length]
		p, q := putAll(word, true)
		is(t, text("EdelmanGreene of", word), text(impl.EdelmanGreene(7, word)), text(p, q, true))
	}
}

func TestEdelmanGreeneOfNone(t *testing.T) {
	for _, c := range []struct {
		n    int
		word []int
	}{
		{0, nil}, {-1, nil}, {8, nil}, {math.MaxInt, nil}, {math.MinInt, nil}, {0, []int{0}}, {8, []int{0}}, {1, []int{0}}, {2, []int{1}}, {2, []int{-1}}, {7, []int{6}}, {7, []int{-1}}, {7, []int{math.MaxInt}}, {7, []int{math.MinInt}}, {2, []int{0, 0}}, {3, []int{0, 1, 0, 1}}, {3, []int{1, 1}}, {4, []int{0, 2, 0}}, {4, []int{2, 0, 1, 0, 2, 1, 0}},
		{7, append(longestWord(7), 0)}, {7, append(longestWord(7), 5)}, {6, longestWord(7)}, {7, repeated(0, 60)}, {7, repeated(0, 61)}, {7, repeated(0, 100000)}, {3, []int{0, 1, 2}},
	} {
		is(t, brief("EdelmanGreene of", c.n, c.word), text(impl.EdelmanGreene(c.n, c.word)), "[] [] false")
	}
}

// TestEdelmanGreeneOfAllWords takes all words for 4: just the reduced ones succeed.
func TestEdelmanGreeneOfAllWords(t *testing.T) {
	reduced := 0
	for length := range 8 {
		for _, word := range wordsOf(3, length) {
			want := "[] [] false"
			if inversionsOf(productOfWord(4, word, false)) == length {
				reduced++
				p, q := putAll(word, true)
				want = text(p, q, true)
			}
			is(t, text("EdelmanGreene of", word), text(impl.EdelmanGreene(4, word)), want)
		}
	}
	is(t, "the number of reduced words for 4", text(reduced), "66")
}

// someReducedWords calls visit with permutations and all their reduced words.
func someReducedWords(t *testing.T, visit func(w []int, words [][]int)) {
	t.Helper()
	for _, w := range append(somePerms(), permsOf(6)[100:200]...) {
		if impl.CountReduced(w) <= 800 {
			words, ok := impl.ReducedWords(w)
			isTrue(t, text("ReducedWords of", w, "succeeds"), ok)
			visit(w, words)
		}
	}
}

func TestEdelmanGreeneByDefinition(t *testing.T) {
	someReducedWords(t, func(w []int, words [][]int) {
		for _, word := range words {
			wantP, wantQ := putAll(word, true)
			is(t, text("EdelmanGreene of", word), text(impl.EdelmanGreene(len(w), word)), text(wantP, wantQ, true))
		}
	})
}

// TestEdelmanGreeneKeepsPermutations: the rows of the first tableau, from the last
// one on, are a reduced word of the same permutation; they ascend. The word that is
// read from its end gives the first tableau with rows and columns exchanged.
func TestEdelmanGreeneKeepsPermutations(t *testing.T) {
	someReducedWords(t, func(w []int, words [][]int) {
		for i, word := range words {
			if i%7 > 0 {
				continue
			}
			what := text("EdelmanGreene of", word)
			p, q, ok := impl.EdelmanGreene(len(w), word)
			isTrue(t, what+" succeeds", ok && impl.TableauOk(p) && impl.TableauOk(q) && impl.TableauOk(transposed(p)))
			isStandard(t, what, p, q)
			read := slices.Clone(p)
			slices.Reverse(read)
			is(t, what+": the permutation of the first tableau", text(impl.WordPerm(len(w), slices.Concat(read...))), text(w))
			back := slices.Clone(word)
			slices.Reverse(back)
			turned, _, _ := impl.EdelmanGreene(len(w), back)
			is(t, what+" from the end", text(turned), text(transposed(p)))
		}
	})
}

// TestReducedWordsByShapes: there are as many reduced words with one first tableau
// as StandardCount says; so the shapes count the reduced words.
func TestReducedWordsByShapes(t *testing.T) {
	someReducedWords(t, func(w []int, words [][]int) {
		pairs := map[string]bool{}
		with := map[string]int{}
		shapes := map[string][]int{}
		for _, word := range words {
			p, q, _ := impl.EdelmanGreene(len(w), word)
			pairs[text(p, q)] = true
			with[text(p)]++
			shapes[text(p)] = shapeOf(p)
		}
		is(t, text("the number of pairs for", w), text(len(pairs)), text(len(words)))
		found := map[string]int{}
		for p, count := range with {
			is(t, text("the reduced words of", w, "with", p), text(count), text(impl.StandardCount(shapes[p])))
			found[impl.FormatInts(shapes[p])]++
		}
		is(t, text("StanleyShapes of", w), text(impl.StanleyShapes(w)), text(partsOfShapes(found), true))
		count := 0
		stanley, _ := impl.StanleyShapes(w)
		for _, part := range stanley {
			count += part.Count * impl.StandardCount(part.Shape)
		}
		is(t, text("the reduced words of", w, "by StanleyShapes"), text(count), text(impl.CountReduced(w)))
	})
}

func TestStanleyShapes(t *testing.T) {
	for s, want := range map[string]string{
		"1": "1:", "1234567": "1:", "21": "1:1", "231": "1:2", "312": "1:1 1", "321": "1:2 1", "2143": "1:1 1, 1:2", "4321": "1:3 2 1", "54321": "1:4 3 2 1", "1432": "1:2 1", "3412": "1:2 2", "4123": "1:1 1 1", "2341": "1:3", "214365": "1:1 1 1, 2:2 1, 1:3",
	} {
		got, ok := impl.StanleyShapes(perm(s))
		isTrue(t, "StanleyShapes of "+s+" succeeds", ok)
		is(t, "StanleyShapes of "+s, impl.FormatParts(got), want)
	}
	for _, w := range notPerms() {
		is(t, brief("StanleyShapes of", w), text(impl.StanleyShapes(w)), "[] false")
	}
}

// TestStanleyShapesOfMany: it fails just if there are too many reduced words.
func TestStanleyShapesOfMany(t *testing.T) {
	failed := 0
	for i, w := range append(permsOf(6), permsOf(7)...) {
		if i%31 > 0 {
			continue
		}
		got, ok := impl.StanleyShapes(w)
		is(t, text("StanleyShapes of", w, "succeeds"), text(ok), text(impl.CountReduced(w) <= 800))
		if !ok {
			failed++
			is(t, text("StanleyShapes of", w), text(got), "[]")
		}
	}
	if failed < 20 {
		t.Error("too few failures:", failed)
	}
	is(t, "StanleyShapes of the longest of 6", text(impl.StanleyShapes(impl.LongestPerm(6))), "[] false")
	is(t, "StanleyShapes of the longest of 7", text(impl.StanleyShapes(impl.LongestPerm(7))), "[] false")
}

// TestStanleyShapesOfInverse: rows and columns are exchanged. Just the permutations
// without the pattern 1 0 3 2 have one shape once.
func TestStanleyShapesOfInverse(t *testing.T) {
	for _, w := range append(permsUpTo(5), permsOf(6)[:150]...) {
		stanley, ok := impl.StanleyShapes(w)
		if !ok {
			continue
		}
		turned := map[string]int{}
		for _, part := range stanley {
			turned[impl.FormatInts(conjugate(part.Shape))] = part.Count
		}
		is(t, text("StanleyShapes of the inverse of", w), text(impl.StanleyShapes(impl.InversePerm(w))), text(partsOfShapes(turned), true))
		is(t, text("StanleyShapes of", w, "is one"), text(len(stanley) == 1 && stanley[0].Count == 1), text(impl.IsVexillary(w)))
	}
}

// TestStanleyShapesByTransition: they are those of the permutations to which the
// transition of the permutation, moved by one place, leads.
func TestStanleyShapesByTransition(t *testing.T) {
	for _, w := range append(permsUpTo(5), permsOf(6)[:200]...) {
		if inversionsOf(w) == 0 || impl.CountReduced(w) > 800 {
			continue
		}
		moved := []int{0}
		for _, x := range w {
			moved = append(moved, x+1)
		}
		_, _, others, ok := impl.TransitionOf(moved)
		isTrue(t, text("TransitionOf", moved, "succeeds"), ok)
		counts := map[string]int{}
		for _, u := range others {
			stanley, fine := impl.StanleyShapes(u)
			isTrue(t, text("StanleyShapes of", u, "succeeds"), fine)
			for _, part := range stanley {
				counts[impl.FormatInts(part.Shape)] += part.Count
			}
		}
		is(t, text("StanleyShapes of", w), text(impl.StanleyShapes(w)), text(partsOfShapes(counts), true))
	}
}
