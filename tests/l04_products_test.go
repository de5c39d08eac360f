package tests

import (
	"math"
	"slices"
	"testing"

	"loop.example/g03113/impl"
)

func TestShapeProductOfFew(t *testing.T) {
	for _, c := range []struct{ a, b, want string }{
		{"", "", "1:"}, {"1", "", "1:1"}, {"", "2 1", "1:2 1"}, {"1", "1", "1:1 1, 1:2"}, {"2", "1", "1:2 1, 1:3"}, {"2", "2", "1:2 2, 1:3 1, 1:4"}, {"1 1", "1 1", "1:1 1 1 1, 1:2 1 1, 1:2 2"},
		{"2 1", "2 1", "1:2 2 1 1, 1:2 2 2, 1:3 1 1 1, 2:3 2 1, 1:3 3, 1:4 1 1, 1:4 2"}, {"8", "8", "1:8 8, 1:9 7, 1:10 6, 1:11 5, 1:12 4, 1:13 3, 1:14 2, 1:15 1, 1:16"}, {"8", "1 1 1 1 1 1 1 1", "1:8 1 1 1 1 1 1 1 1, 1:9 1 1 1 1 1 1 1"},
		{"1 1 1 1 1 1 1 1", "1 1", "1:1 1 1 1 1 1 1 1 1 1, 1:2 1 1 1 1 1 1 1 1, 1:2 2 1 1 1 1 1 1"},
	} {
		got := product(t, numbers(c.a), numbers(c.b))
		is(t, text("ShapeProduct of", c.a, "and", c.b), impl.FormatParts(got), c.want)
	}
	last := product(t, repeated(1, 8), repeated(1, 8))
	is(t, "the first shape of ShapeProduct of two columns of 8", text(last[0]), text(impl.Part{Shape: repeated(1, 16), Count: 1}))
}

func TestShapeProductByDefinition(t *testing.T) {
	for _, a := range shapesUpTo(5) {
		for _, b := range append(shapesUpTo(4), shapesOf(5, 3)...) {
			is(t, text("ShapeProduct of", a, b), text(product(t, a, b)), text(productByDefinition(a, b)))
		}
	}
	for _, b := range [][]int{{6}, {5, 1}, {3, 2, 1}, {2, 2, 1, 1}, {4, 3}, {2, 2, 2, 1}, {4, 4}, {8}, {7, 1}} {
		for _, a := range [][]int{nil, {1}, {2, 1}, {1, 1, 1}, {3, 2}} {
			is(t, text("ShapeProduct of", a, b), text(product(t, a, b)), text(productByDefinition(a, b)))
		}
	}
}

// TestShapeProductOfAll takes all shapes: as each word for a product of sizes comes
// from two, the StandardCounts of the product must add up. The factors may be
// exchanged, and so may rows and columns.
func TestShapeProductOfAll(t *testing.T) {
	choices := func(n int, k int) int {
		count := 1
		for i := range k {
			count = count * (n - i) / (i + 1)
		}
		return count
	}
	for _, a := range shapesUpTo(8) {
		for _, b := range shapesUpTo(8) {
			what := text("ShapeProduct of", a, b)
			got := product(t, a, b)
			isTrue(t, what+" is in order", impl.PartsOk(got))
			is(t, what+" exchanged", text(product(t, b, a)), text(got))
			sum, turned := 0, map[string]int{}
			for _, part := range got {
				sum += part.Count * impl.StandardCount(part.Shape)
				turned[impl.FormatInts(conjugate(part.Shape))] = part.Count
			}
			is(t, what+": the sum of the StandardCounts", text(sum), text(choices(total(a)+total(b), total(a))*impl.StandardCount(a)*impl.StandardCount(b)))
			if total(a)+total(b) <= 12 {
				is(t, what+", rows and columns exchanged", text(product(t, conjugate(a), conjugate(b))), text(partsOfShapes(turned)))
			}
		}
	}
}

// TestShapeProductOfSchurPolys holds it against the product of the polynomials.
func TestShapeProductOfSchurPolys(t *testing.T) {
	known := schurFinder{}
	for _, a := range shapesUpTo(8) {
		for _, b := range shapesUpTo(8) {
			n := 3
			if total(a)+total(b) <= 8 {
				n = 5
			}
			sum := free{}
			for _, part := range product(t, a, b) {
				sum = sum.plus(part.Count, known.of(part.Shape, n))
			}
			isTrue(t, text("ShapeProduct of", a, b, "is that of the polynomials"), len(sum.plus(-1, known.of(a, n).times(known.of(b, n))).terms()) == 0)
		}
	}
}

// TestSchurPolysMultiply does the same with the functions of the program alone.
func TestSchurPolysMultiply(t *testing.T) {
	for _, a := range shapesUpTo(4) {
		for _, b := range shapesUpTo(4) {
			for n := range 5 {
				f := must(t)(impl.SchurPoly(a, n))
				g := must(t)(impl.SchurPoly(b, n))
				var sum []impl.Term
				for _, part := range product(t, a, b) {
					sum = must(t)(impl.AddPolys(sum, part.Count, must(t)(impl.SchurPoly(part.Shape, n))))
				}
				is(t, text("the product of SchurPoly of", a, b, n), text(impl.MulPolys(f, g)), text(sum, true))
			}
		}
	}
}

// TestShapeProductIsMulPerms: the classes of permutations with one descent multiply
// as shapes do.
func TestShapeProductIsMulPerms(t *testing.T) {
	const k, n = 3, 7
	for _, a := range shapesUpTo(4) {
		for _, b := range shapesUpTo(3) {
			if len(a) > k || len(b) > k || rowOf(a, 0)+rowOf(b, 0) > n-k {
				continue
			}
			var want []impl.Class
			for _, part := range product(t, a, b) {
				if w := impl.GrassmannianPerm(part.Shape, k, n); w != nil {
					want = append(want, impl.Class{Perm: trimmed(w), Count: part.Count})
				}
			}
			slices.SortFunc(want, func(v, w impl.Class) int { return slices.Compare(v.Perm, w.Perm) })
			is(t, text("MulPerms for", a, b), text(impl.MulPerms(impl.GrassmannianPerm(a, k, n), impl.GrassmannianPerm(b, k, n))), text(want, true))
		}
	}
}

func TestShapeProductOfNone(t *testing.T) {
	for _, l := range noSmallShapes() {
		for _, other := range [][]int{nil, {1}, {8}, l} {
			is(t, brief("ShapeProduct of", l, other), text(impl.ShapeProduct(l, other)), "[] false")
			is(t, brief("ShapeProduct of", other, l), text(impl.ShapeProduct(other, l)), "[] false")
			for _, c := range [][]int{nil, {1}, {9}, {3, 3, 3}, l} {
				is(t, brief("LrCount of", l, other, c), text(impl.LrCount(l, other, c)), "-1")
				is(t, brief("LrCount of", other, l, c), text(impl.LrCount(other, l, c)), "-1")
			}
		}
	}
}

func TestLrCountOfFew(t *testing.T) {
	for _, c := range []struct {
		a, b, c string
		want    int
	}{
		{"2 1", "2 1", "3 2 1", 2}, {"2 1", "2 1", "4 2", 1}, {"2 1", "2 1", "4 1 1", 1}, {"2 1", "2 1", "6", 0}, {"2 1", "2 1", "5 1", 0}, {"", "", "", 1}, {"", "", "1", 0}, {"1", "", "", 0}, {"1", "", "1", 1}, {"", "2 1", "2 1", 1}, {"", "2 1", "3", 0}, {"2", "1 1", "2 2", 0},
		{"3 2 1", "2 1", "4 3 2", 2}, {"3 2 1", "3 2 1", "4 4 2 2", 2}, {"3 2 1", "3 2 1", "5 4 2 1", 4}, {"3 2 1", "3 2 1", "5 3 2 1 1", 4}, {"3 2 1", "3 2 1", "4 3 3 2", 3}, {"3", "1", "2 2", 0}, {"3", "1", "2 1 1", 0}, {"8", "8", "16", 1}, {"8", "8", "8 8", 1}, {"2 1", "2 1", "3 3", 1}, {"2 1", "2 1", "3 2", 0}, {"2 1", "2 1", "3 2 1 1", 0},
		{"1 1 1 1 1 1 1 1", "1 1 1 1 1 1 1 1", "1 1 1 1 1 1 1 1 1 1 1 1 1 1 1 1", 1}, {"8", "8", "16 16 16 16", 0},
	} {
		is(t, text("LrCount of", c.a, "and", c.b, "in", c.c), text(impl.LrCount(numbers(c.a), numbers(c.b), numbers(c.c))), text(c.want))
	}
	for _, c := range notShapes() {
		is(t, brief("LrCount in", c), text(impl.LrCount([]int{2, 1}, []int{1}, c)), "-1")
		is(t, brief("LrCount of nothing in", c), text(impl.LrCount(nil, nil, c)), "-1")
	}
}

// TestLrCountByDefinition takes shapes c of other sizes, too, and those that do not
// contain a.
func TestLrCountByDefinition(t *testing.T) {
	for _, a := range shapesUpTo(4) {
		for _, b := range shapesUpTo(4) {
			for _, c := range shapesUpTo(8) {
				is(t, text("LrCount of", a, b, c), text(impl.LrCount(a, b, c)), text(fillingsByDefinition(a, b, c)))
			}
		}
	}
	b := []int{3, 2, 1}
	for _, a := range [][]int{{3, 2, 1}, {4, 2, 1}} {
		for _, c := range shapesOf(total(a)+6, total(a)+6) {
			is(t, text("LrCount of", a, b, c), text(impl.LrCount(a, b, c)), text(fillingsByDefinition(a, b, c)))
		}
	}
}

func TestPartsOk(t *testing.T) {
	for _, l := range [][]impl.Part{nil, {}, parts("1:"), parts("-1:"), parts("1:, 1:1"), parts("1:1, 1:1 1, 1:2"), parts("5:16"), parts("-7:1, 3:1 1, -2:9 8 7 6 5"), {{Shape: repeated(16, 16), Count: math.MinInt}}, {{Shape: repeated(16, 16), Count: math.MaxInt}}, {{Count: math.MaxInt}}} {
		isTrue(t, text("PartsOk of", l), impl.PartsOk(l))
	}
	var all []impl.Part
	for _, shape := range impl.ShapesIn(6, 6) {
		all = append(all, impl.Part{Shape: shape, Count: -len(all) - 1})
	}
	isTrue(t, "PartsOk of 924 parts", impl.PartsOk(all))
	all[923].Count = 0
	isFalse(t, "PartsOk of 924 parts, the last one with 0", impl.PartsOk(all))
	for _, l := range notParts() {
		isFalse(t, brief("PartsOk of", l), impl.PartsOk(l))
	}
	shapes := shapesUpTo(5)
	for _, a := range shapes {
		for _, b := range shapes {
			is(t, text("PartsOk of", a, b), text(impl.PartsOk([]impl.Part{{Shape: a, Count: 1}, {Shape: b, Count: 1}})), text(slices.Compare(a, b) < 0))
		}
	}
}

func TestFormatParts(t *testing.T) {
	is(t, "FormatParts of nil", impl.FormatParts(nil), "0")
	is(t, "FormatParts of the empty list", impl.FormatParts([]impl.Part{}), "0")
	for _, s := range []string{"1:", "-1:", "1:1 1, 1:2", "-12:1, 34:16 16 1", "2:, -3:1, 999999999:2 1", "1:16"} {
		is(t, "FormatParts of "+s, impl.FormatParts(parts(s)), s)
	}
	is(t, "FormatParts of the least Count", impl.FormatParts([]impl.Part{{Shape: []int{1}, Count: math.MinInt}}), "-9223372036854775808:1")
	for _, l := range notParts() {
		is(t, brief("FormatParts of", l), impl.FormatParts(l), "")
	}
}

func TestGrassmannianPermOfFew(t *testing.T) {
	for _, c := range []struct {
		shape string
		k, n  int
		want  string
	}{
		{"2 1", 2, 4, "2413"}, {"", 2, 4, "1234"}, {"2 2", 2, 4, "3412"}, {"1", 2, 4, "1324"}, {"1 1", 2, 4, "2314"}, {"2", 2, 4, "1423"}, {"6", 1, 7, "7123456"}, {"1 1 1 1 1 1", 6, 7, "2345671"}, {"4 4 4", 3, 7, "5671234"}, {"3 1", 3, 7, "1362457"}, {"", 0, 1, "1"}, {"", 1, 1, "1"},
		{"1", 1, 2, "21"}, {"", 0, 7, "1234567"}, {"", 7, 7, "1234567"},
	} {
		is(t, text("GrassmannianPerm of", c.shape, "in", c.k, c.n), impl.FormatPerm(impl.GrassmannianPerm(numbers(c.shape), c.k, c.n)), c.want)
	}
}

// TestGrassmannianPermInBoxes: just the shapes in the box have one; it has no descent
// but that at k - 1, and the shape is its code.
func TestGrassmannianPermInBoxes(t *testing.T) {
	for n := 1; n <= 7; n++ {
		for k := range n + 1 {
			for _, shape := range append(shapesUpTo(7), impl.ShapesIn(min(k, 6), min(n-k, 6))...) {
				what := text("GrassmannianPerm of", shape, "in", k, n)
				w := impl.GrassmannianPerm(shape, k, n)
				if len(shape) > k || rowOf(shape, 0) > n-k {
					is(t, what, text(w), "[]")
					continue
				}
				isTrue(t, what+" is a permutation", impl.IsPerm(w) && len(w) == n && impl.IsGrassmannian(w))
				code := impl.CodeOf(w)
				for i := range n {
					is(t, text(what, "has the code at", i), text(code[i]), text(codeOfRows(shape, k, i)))
				}
				want := text(shape, k, true)
				if len(shape) == 0 {
					want = "[] 0 false"
				}
				is(t, text("ShapeOfPerm of", w), text(impl.ShapeOfPerm(w)), want)
			}
		}
	}
}

// codeOfRows is the number of inversions from place i on: the rows from the last one
// on stand at the places before k.
func codeOfRows(shape []int, k int, i int) int {
	if i >= k {
		return 0
	}
	return rowOf(shape, k-1-i)
}

func TestGrassmannianPermOutside(t *testing.T) {
	for _, l := range notShapes() {
		for _, n := range []int{1, 4, 7} {
			for _, k := range []int{0, 1, n - 1, n} {
				is(t, brief("GrassmannianPerm of", l, k, n), text(impl.GrassmannianPerm(l, k, n)), "[]")
			}
		}
	}
	for _, n := range append(sizesOutside(), 0, 8) {
		for _, k := range []int{0, 1, 2, n, n - 1, math.MaxInt, math.MinInt} {
			is(t, text("GrassmannianPerm of nothing in", k, n), text(impl.GrassmannianPerm(nil, k, n)), "[]")
			is(t, text("GrassmannianPerm of 1 in", k, n), text(impl.GrassmannianPerm([]int{1}, k, n)), "[]")
		}
	}
	for n := 1; n <= 7; n++ {
		for _, k := range append(sizesOutside(), n+1, n+2) {
			is(t, text("GrassmannianPerm of nothing in", k, n), text(impl.GrassmannianPerm(nil, k, n)), "[]")
			is(t, text("GrassmannianPerm of 1 in", k, n), text(impl.GrassmannianPerm([]int{1}, k, n)), "[]")
		}
		is(t, text("GrassmannianPerm of 1 in 0 and", n), text(impl.GrassmannianPerm([]int{1}, 0, n)), "[]")
		is(t, text("GrassmannianPerm of 1 in n and", n), text(impl.GrassmannianPerm([]int{1}, n, n)), "[]")
	}
}

// TestShapeOfPerm takes all permutations: just those with one descent have a shape.
func TestShapeOfPerm(t *testing.T) {
	for s, want := range map[string]string{"2413": "[2 1] 2 true", "21": "[1] 1 true", "1": "[] 0 false", "1234567": "[] 0 false", "321": "[] 0 false", "2143": "[] 0 false", "1362457": "[3 1] 3 true", "7123456": "[6] 1 true", "2345671": "[1 1 1 1 1 1] 6 true", "132": "[1] 2 true", "1324567": "[1] 2 true"} {
		is(t, "ShapeOfPerm of "+s, text(impl.ShapeOfPerm(perm(s))), want)
	}
	found := map[string]int{}
	for _, w := range permsUpTo(7) {
		shape, k, ok := impl.ShapeOfPerm(w)
		descents := 0
		for i := range len(w) - 1 {
			if w[i] > w[i+1] {
				descents++
			}
		}
		isTrue(t, text("ShapeOfPerm of", w, "succeeds or not"), ok == (descents == 1))
		if ok {
			found[text(k, len(w))]++
			is(t, text("GrassmannianPerm of ShapeOfPerm of", w), text(impl.GrassmannianPerm(shape, k, len(w))), text(w))
		} else {
			is(t, text("ShapeOfPerm of", w), text(shape, k), "[] 0")
		}
	}
	for n := 1; n <= 7; n++ {
		for k := range n + 1 {
			is(t, text("the permutations with one descent for", k, n), text(found[text(k, n)]), text(len(impl.ShapesIn(min(k, 6), min(n-k, 6)))-1))
		}
	}
	for _, w := range notPerms() {
		is(t, brief("ShapeOfPerm of", w), text(impl.ShapeOfPerm(w)), "[] 0 false")
	}
}
