package tests

import (
	"math"
	"slices"
	"testing"

	"loop.example/g03113/impl"
)

func TestLimitsOfTableaux(t *testing.T) {
	is(t, "MaxPart, MaxShape, MaxTableaux, MaxEntry", text(impl.MaxPart, impl.MaxShape, impl.MaxTableaux, impl.MaxEntry), "16 8 400 20")
	is(t, "Part", text(impl.Part{Shape: []int{2, 1}, Count: 3}), "{[2 1] 3}")
}

func TestIsShape(t *testing.T) {
	isTrue(t, "IsShape of nil", impl.IsShape(nil))
	isTrue(t, "IsShape of the empty list", impl.IsShape([]int{}))
	for _, l := range someShapes() {
		isTrue(t, text("IsShape of", l), impl.IsShape(l))
	}
	for _, l := range notShapes() {
		isFalse(t, brief("IsShape of", l), impl.IsShape(l))
	}
}

func TestConjugateShape(t *testing.T) {
	for s, want := range map[string]string{"": "", "1": "1", "3 1": "2 1 1", "4 4 2": "3 3 2 2", "1 1 1": "3", "16": "1 1 1 1 1 1 1 1 1 1 1 1 1 1 1 1", "5 4 2 1 1": "5 3 2 2 1"} {
		is(t, "ConjugateShape of "+s, impl.FormatInts(impl.ConjugateShape(numbers(s))), want)
	}
	for _, shape := range someShapes() {
		got := impl.ConjugateShape(shape)
		is(t, text("ConjugateShape of", shape), text(got), text(conjugate(shape)))
		is(t, text("ConjugateShape of that of", shape), text(impl.ConjugateShape(got)), text(shape))
	}
	for _, l := range notShapes() {
		is(t, brief("ConjugateShape of", l), text(impl.ConjugateShape(l)), "[]")
	}
}

func TestContainsShape(t *testing.T) {
	shapes := shapesUpTo(5)
	for _, a := range shapes {
		for _, b := range shapes {
			want := true
			for i := range b {
				want = want && b[i] <= rowOf(a, i)
			}
			is(t, text("ContainsShape of", a, b), text(impl.ContainsShape(a, b)), text(want))
		}
	}
	isTrue(t, "ContainsShape of two greatest shapes", impl.ContainsShape(repeated(16, 16), repeated(16, 16)))
	isTrue(t, "ContainsShape of the greatest shape and nil", impl.ContainsShape(repeated(16, 16), nil))
	isFalse(t, "ContainsShape of 15 rows and of 16", impl.ContainsShape(repeated(16, 15), repeated(1, 16)))
	for _, l := range notShapes() {
		isFalse(t, brief("ContainsShape of", l, "and nil"), impl.ContainsShape(l, nil))
		isFalse(t, brief("ContainsShape of", l, l), impl.ContainsShape(l, l))
		isFalse(t, brief("ContainsShape of the greatest shape and", l), impl.ContainsShape(repeated(16, 16), l))
	}
}

func TestShapesIn(t *testing.T) {
	is(t, "ShapesIn of 2 and 1", text(impl.ShapesIn(2, 1)), "[[] [1] [1 1]]")
	is(t, "ShapesIn of 2 and 2", text(impl.ShapesIn(2, 2)), "[[] [1] [1 1] [2] [2 1] [2 2]]")
	for side := range 7 {
		is(t, text("ShapesIn of 0 and", side), text(impl.ShapesIn(0, side)), "[[]]")
		is(t, text("ShapesIn of", side, "and 0"), text(impl.ShapesIn(side, 0)), "[[]]")
	}
	for r := range 7 {
		for c := range 7 {
			var want [][]int
			for size := range r*c + 1 {
				for _, shape := range shapesOf(size, c) {
					if len(shape) <= r {
						want = append(want, shape)
					}
				}
			}
			slices.SortFunc(want, slices.Compare)
			is(t, text("ShapesIn of", r, c), text(impl.ShapesIn(r, c)), text(want))
		}
	}
	is(t, "the number of ShapesIn of 6 and 6", text(len(impl.ShapesIn(6, 6))), "924")
	for _, side := range append(sizesOutside(), 7) {
		for _, other := range []int{0, 3, 6, side} {
			is(t, text("ShapesIn of", side, other), text(impl.ShapesIn(side, other)), "[]")
			is(t, text("ShapesIn of", other, side), text(impl.ShapesIn(other, side)), "[]")
		}
	}
}

func TestTableauOk(t *testing.T) {
	isTrue(t, "TableauOk of nil", impl.TableauOk(nil))
	isTrue(t, "TableauOk of the empty list", impl.TableauOk([][]int{}))
	for _, s := range []string{"0", "20", "0 0 0", "0 20, 20", "0, 20", "5 5 6, 6 7 7, 8", "0 1 2, 3 4, 5", "0 1, 1 2, 2 3", "20 20 20 20 20 20 20 20 20 20 20 20 20 20 20 20"} {
		isTrue(t, "TableauOk of "+s, impl.TableauOk(rows(s)))
	}
	column := transposed([][]int{ascending(16)})
	isTrue(t, "TableauOk of 16 rows", impl.TableauOk(column))
	var square [][]int
	for i := range 16 {
		square = append(square, repeated(i+4, 16))
	}
	isTrue(t, "TableauOk of 16 rows of 16", impl.TableauOk(square))
	square[15][15] = 20
	isTrue(t, "TableauOk of 16 rows of 16 with 20", impl.TableauOk(square))
	square[15][15] = 21
	isFalse(t, "TableauOk of 16 rows of 16 with 21", impl.TableauOk(square))
	for _, rows := range notTableaux() {
		isFalse(t, brief("TableauOk of", rows), impl.TableauOk(rows))
	}
	for _, shape := range shapesUpTo(5) {
		for _, word := range wordsOf(3, total(shape)) {
			filled := cut(word, shape)
			is(t, text("TableauOk of", filled), text(impl.TableauOk(filled)), text(ascends(filled)))
		}
	}
}

func TestTableauxOfFew(t *testing.T) {
	is(t, "TableauxOf 2 1 with 3", text(impl.TableauxOf([]int{2, 1}, 3)), "[[[0 0] [1]] [[0 0] [2]] [[0 1] [1]] [[0 1] [2]] [[0 2] [1]] [[0 2] [2]] [[1 1] [2]] [[1 2] [2]]] true")
	for _, shape := range shapesUpTo(8) {
		for n := range 8 {
			if math.Pow(float64(n), float64(total(shape))) < 3000 {
				is(t, text("TableauxOf", shape, n), text(impl.TableauxOf(shape, n)), text(tableauxFrom(shape, n), true))
			}
		}
	}
	for n := range 8 {
		is(t, text("TableauxOf the empty shape and", n), text(impl.TableauxOf(nil, n)), "[[]] true")
	}
	is(t, "TableauxOf 1 with 0", text(impl.TableauxOf([]int{1}, 0)), "[] true")
	is(t, "TableauxOf three rows with 2", text(impl.TableauxOf([]int{2, 1, 1}, 2)), "[] true")
	is(t, "TableauxOf eight rows with 7", text(impl.TableauxOf(repeated(1, 8), 7)), "[] true")
}

// TestTableauxOfAll takes all shapes: as many tableaux as there must be, each with
// the right shape and numbers, and in ascending order, are all of them.
func TestTableauxOfAll(t *testing.T) {
	known := schurFinder{}
	most, least := 0, math.MaxInt
	for _, shape := range shapesUpTo(8) {
		for n := range 8 {
			what := text("TableauxOf", shape, n)
			count := known.of(shape, n).atOne()
			got, ok := impl.TableauxOf(shape, n)
			is(t, what+" succeeds", text(ok), text(count <= 400))
			if count > 400 {
				least = min(least, count)
				is(t, what, text(got), "[]")
				continue
			}
			most = max(most, count)
			is(t, text("the number of", what), text(len(got)), text(count))
			var before []int
			for i, tableau := range got {
				word := slices.Concat(tableau...)
				isTrue(t, text(tableau, "is right in", what), text(shapeOf(tableau)) == text(shape) && ascends(tableau) && (len(word) == 0 || slices.Min(word) >= 0 && slices.Max(word) < n))
				isTrue(t, text(tableau, "stands behind the one before in", what), i == 0 || slices.Compare(before, word) < 0)
				before = word
			}
		}
	}
	is(t, "the numbers of tableaux next to the limit", text(most, least), "392 420")
}

// noSmallShapes are no shapes of a size of at most 8.
func noSmallShapes() [][]int {
	return append(notShapes(), []int{9}, repeated(1, 9), []int{3, 3, 3}, []int{8, 1}, []int{4, 3, 2}, []int{16}, repeated(1, 16), repeated(16, 16))
}

func TestTableauxAndSchurOfNone(t *testing.T) {
	for n := range 8 {
		for _, l := range noSmallShapes() {
			is(t, brief("TableauxOf", l, n), text(impl.TableauxOf(l, n)), "[] false")
			is(t, brief("SchurPoly of", l, n), text(impl.SchurPoly(l, n)), "[] false")
		}
	}
	for _, n := range append(sizesOutside(), 8) {
		for _, l := range [][]int{nil, {1}, {2, 1}, {8}, {0}, repeated(1, 8), {9}} {
			is(t, text("TableauxOf", l, n), text(impl.TableauxOf(l, n)), "[] false")
			is(t, text("SchurPoly of", l, n), text(impl.SchurPoly(l, n)), "[] false")
		}
	}
}

func TestSchurPolyOfFew(t *testing.T) {
	for _, c := range []struct {
		shape string
		n     int
		want  string
	}{
		{"", 0, "1:"}, {"", 7, "1:"}, {"1", 0, "0"}, {"1", 1, "1:1"}, {"1 1", 1, "0"}, {"2 1", 2, "1:1 2, 1:2 1"}, {"2 1", 3, "1:0 1 2, 1:1 0 2, 1:0 2 1, 2:1 1 1, 1:2 0 1, 1:1 2, 1:2 1"}, {"8", 1, "1:8"}, {"1 1 1 1 1 1 1", 7, "1:1 1 1 1 1 1 1"},
		{"2 1 1 1 1 1 1", 7, "1:1 1 1 1 1 1 2, 1:1 1 1 1 1 2 1, 1:1 1 1 1 2 1 1, 1:1 1 1 2 1 1 1, 1:1 1 2 1 1 1 1, 1:1 2 1 1 1 1 1, 1:2 1 1 1 1 1 1"}, {"1 1 1 1 1 1 1 1", 7, "0"}, {"8", 0, "0"},
	} {
		is(t, text("SchurPoly of", c.shape, c.n), impl.FormatPoly(must(t)(impl.SchurPoly(numbers(c.shape), c.n))), c.want)
	}
}

// TestSchurPolyIsSumOverTableaux holds it against the tableaux that the definition
// gives, and against those that TableauxOf returns.
func TestSchurPolyIsSumOverTableaux(t *testing.T) {
	for _, shape := range shapesUpTo(8) {
		for n := range 8 {
			if math.Pow(float64(n), float64(total(shape))) < 3000 {
				is(t, text("SchurPoly of", shape, n), text(impl.SchurPoly(shape, n)), sumOverTableaux(tableauxFrom(shape, n)).want())
			}
			if tableaux, ok := impl.TableauxOf(shape, n); ok {
				is(t, text("SchurPoly of", shape, n, "by TableauxOf"), text(impl.SchurPoly(shape, n)), sumOverTableaux(tableaux).want())
			}
		}
	}
}

func sumOverTableaux(tableaux [][][]int) free {
	sum := free{}
	for _, t := range tableaux {
		var e [7]int
		for _, x := range slices.Concat(t...) {
			e[x]++
		}
		sum[e]++
	}
	return sum
}

// TestSchurPolyOfAll takes all shapes: there are more than MaxTableaux tableaux of
// some, and too many terms of some.
func TestSchurPolyOfAll(t *testing.T) {
	known := schurFinder{}
	many, beyond := 0, 0
	for _, shape := range shapesUpTo(8) {
		for n := range 8 {
			p := known.of(shape, n)
			is(t, text("SchurPoly of", shape, n), text(impl.SchurPoly(shape, n)), p.want())
			if !p.withinLimits() {
				beyond++
			} else if p.atOne() > 400 {
				many++
			}
		}
	}
	if many < 20 || beyond < 20 {
		t.Errorf("%d Schur polynomials of more than MaxTableaux tableaux, %d beyond the limits", many, beyond)
	}
}

func TestSchurPolyIsSymmetric(t *testing.T) {
	for _, shape := range shapesUpTo(8) {
		for n := range 8 {
			f, _ := impl.SchurPoly(shape, n)
			for i := range n - 1 {
				isTrue(t, text("SchurPoly of", shape, n, "is symmetric at", i), impl.IsSymmetricAt(f, i))
			}
		}
	}
}

// TestSchurPolyIsKeyPoly: it is the key polynomial whose exponents ascend.
func TestSchurPolyIsKeyPoly(t *testing.T) {
	for _, shape := range shapesUpTo(8) {
		for n := max(1, len(shape)); n <= 5; n++ {
			exp := make([]int, n)
			for i, length := range shape {
				exp[n-1-i] = length
			}
			if rowOf(shape, 0) <= 4 {
				is(t, text("SchurPoly of", shape, n), text(impl.SchurPoly(shape, n)), text(impl.KeyPoly(exp)))
			}
		}
	}
}

// TestSchurPolyIsSchubertPoly: it is the Schubert polynomial of a permutation with
// one descent.
func TestSchurPolyIsSchubertPoly(t *testing.T) {
	for n := 1; n <= 7; n++ {
		for k := range n + 1 {
			for _, shape := range impl.ShapesIn(min(k, 6), min(n-k, 6)) {
				if total(shape) <= 8 {
					is(t, text("SchurPoly of", shape, k), text(impl.SchurPoly(shape, k)), text(impl.SchubertPoly(impl.GrassmannianPerm(shape, k, n))))
				}
			}
		}
		for _, w := range permsOf(n) {
			if shape, k, ok := impl.ShapeOfPerm(w); ok && total(shape) <= 8 {
				is(t, text("SchubertPoly of", w), text(impl.SchubertPoly(w)), text(impl.SchurPoly(shape, k)))
			}
		}
	}
}

func TestStandardCount(t *testing.T) {
	for s, want := range map[string]string{
		"": "1", "1": "1", "2 1": "2", "3 2": "5", "3 2 1": "16", "4 3 2 1": "768", "5 4 3 2 1": "292864", "3 3 3": "42", "4 4 4 4": "24024", "10 10": "16796", "5 5 5 5": "1662804", "16": "1", "16 4": "3705", "20": "-1", "17": "-1", "16 5": "-1", "6 5 4 3 2 1": "-1",
		"7 7 7": "-1", "5 5 5 5 1": "-1",
	} {
		is(t, "StandardCount of "+s, text(impl.StandardCount(numbers(s))), want)
	}
	known := standardFinder{}
	for size := range 23 {
		for _, shape := range shapesOf(size, size) {
			want := -1
			if size <= 20 && len(shape) <= 16 && rowOf(shape, 0) <= 16 {
				want = known.of(shape)
			}
			is(t, text("StandardCount of", shape), text(impl.StandardCount(shape)), text(want))
		}
	}
	for _, l := range notShapes() {
		is(t, brief("StandardCount of", l), text(impl.StandardCount(l)), "-1")
	}
	is(t, "StandardCount of the greatest shape", text(impl.StandardCount(repeated(16, 16))), "-1")
}

// TestStandardCountOfTableaux counts those of TableauxOf in which each number is
// once.
func TestStandardCountOfTableaux(t *testing.T) {
	for _, shape := range shapesUpTo(5) {
		tableaux, ok := impl.TableauxOf(shape, total(shape))
		isTrue(t, text("TableauxOf", shape, "succeeds"), ok)
		count := 0
		for _, tableau := range tableaux {
			word := slices.Concat(tableau...)
			slices.Sort(word)
			if slices.Equal(word, ascending(total(shape))) {
				count++
			}
		}
		is(t, text("StandardCount of", shape), text(impl.StandardCount(shape)), text(count))
	}
}
