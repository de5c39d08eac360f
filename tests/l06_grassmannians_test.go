package tests

import (
	"math"
	"slices"
	"testing"

	"loop.example/g03113/impl"
)

func TestLimitsOfGrassmannians(t *testing.T) {
	is(t, "MaxFactors", text(impl.MaxFactors), "12")
	is(t, "QPart", text(impl.QPart{Power: 1, Shape: []int{2}, Count: 3}), "{1 [2] 3}")
}

func TestIsInBoxOfFew(t *testing.T) {
	for _, c := range []struct {
		shape string
		k, n  int
		want  bool
	}{
		{"", 2, 4, true}, {"2 2", 2, 4, true}, {"2 1", 2, 4, true}, {"3", 2, 4, false}, {"3 3", 2, 4, false}, {"1 1 1", 2, 4, false}, {"2 2 1", 2, 4, false}, {"1 2", 2, 4, false}, {"1 0", 2, 4, false}, {"", 0, 1, true}, {"", 1, 1, true}, {"1", 0, 1, false}, {"1", 1, 1, false}, {"", 0, 7, true}, {"", 7, 7, true},
		{"1", 0, 7, false}, {"1", 7, 7, false}, {"6", 1, 7, true}, {"7", 1, 7, false}, {"1 1 1 1 1 1", 6, 7, true}, {"1 1 1 1 1 1 1", 6, 7, false}, {"4 4 4", 3, 7, true}, {"", 0, 0, false}, {"", 0, 8, false}, {"", 3, 8, false}, {"", -1, 4, false}, {"", 5, 4, false},
	} {
		is(t, text("IsInBox of", c.shape, "in", c.k, c.n), text(impl.IsInBox(numbers(c.shape), c.k, c.n)), text(c.want))
	}
}

func TestIsInBox(t *testing.T) {
	for _, b := range boxesUpTo(7) {
		for _, shape := range append(someShapes(), b.shapes()...) {
			want := len(shape) <= b.k && rowOf(shape, 0) <= b.n-b.k
			is(t, text("IsInBox of", shape, "in", b), text(impl.IsInBox(shape, b.k, b.n)), text(want))
		}
		for _, l := range b.notIn() {
			isFalse(t, brief("IsInBox of", l, "in", b), impl.IsInBox(l, b.k, b.n))
			is(t, brief("DualShape of", l, "in", b), text(impl.DualShape(l, b.k, b.n)), "[]")
		}
	}
	for _, b := range notBoxes() {
		for _, shape := range [][]int{nil, {}, {1}, {2, 1}} {
			isFalse(t, text("IsInBox of", shape, "in", b), impl.IsInBox(shape, b.k, b.n))
			is(t, text("DualShape of", shape, "in", b), text(impl.DualShape(shape, b.k, b.n)), "[]")
		}
	}
}

func TestDualShapeOfFew(t *testing.T) {
	for _, c := range []struct {
		shape string
		k, n  int
		want  string
	}{
		{"2 1", 2, 4, "1"}, {"", 2, 4, "2 2"}, {"2 2", 2, 4, ""}, {"1 1", 2, 4, "1 1"}, {"2", 2, 4, "2"}, {"", 0, 1, ""}, {"", 1, 1, ""}, {"", 0, 7, ""}, {"", 7, 7, ""}, {"4 2", 3, 7, "4 2"}, {"4 3 1", 3, 7, "3 1"}, {"", 3, 7, "4 4 4"}, {"2", 1, 7, "4"}, {"1 1", 6, 7, "1 1 1 1"}, {"3", 4, 7, "3 3 3"},
	} {
		is(t, text("DualShape of", c.shape, "in", c.k, c.n), text(impl.DualShape(numbers(c.shape), c.k, c.n)), text(numbers(c.want)))
	}
}

// TestDualShape: the string of the dual shape is read backwards.
func TestDualShape(t *testing.T) {
	for _, b := range boxesUpTo(7) {
		for _, shape := range b.shapes() {
			what := text("DualShape of", shape, "in", b)
			dual := impl.DualShape(shape, b.k, b.n)
			is(t, what, text(dual), text(b.dual(shape)))
			is(t, what+", twice", text(impl.DualShape(dual, b.k, b.n)), text(shape))
			is(t, what+", its string", text(impl.StringOfShape(dual, b.k, b.n)), text(reversed(impl.StringOfShape(shape, b.k, b.n))))
			is(t, what+", both sizes", text(total(dual)+total(shape)), text(b.k*(b.n-b.k)))
		}
	}
}

func TestGaussCountsOfFew(t *testing.T) {
	for _, c := range []struct {
		k, n int
		want string
	}{
		{0, 1, "1"}, {1, 1, "1"}, {1, 2, "1 1"}, {2, 4, "1 1 2 1 1"}, {2, 5, "1 1 2 2 2 1 1"}, {3, 6, "1 1 2 3 3 3 3 2 1 1"}, {3, 7, "1 1 2 3 4 4 5 4 4 3 2 1 1"}, {1, 7, "1 1 1 1 1 1 1"}, {6, 7, "1 1 1 1 1 1 1"}, {0, 7, "1"}, {7, 7, "1"},
	} {
		is(t, text("GaussCounts of", c.k, c.n), text(impl.GaussCounts(c.k, c.n)), text(numbers(c.want)))
	}
	for _, b := range notBoxes() {
		is(t, text("GaussCounts of", b), text(impl.GaussCounts(b.k, b.n)), "[]")
	}
}

// TestGaussCounts: a shape has its first row shorter than the box, or is in the box of
// one row less behind it; it has fewer rows than the box, or is in the box of one
// column less behind its first column.
func TestGaussCounts(t *testing.T) {
	for _, b := range boxesUpTo(7) {
		what := text("GaussCounts of", b)
		got := impl.GaussCounts(b.k, b.n)
		want := make([]int, b.k*(b.n-b.k)+1)
		for _, shape := range b.shapes() {
			want[total(shape)]++
		}
		is(t, what, text(got), text(want))
		is(t, what+", rows and columns exchanged", text(impl.GaussCounts(b.n-b.k, b.n)), text(got))
		is(t, what+", backwards", text(reversed(got)), text(got))
		if b.k == 0 || b.k == b.n {
			continue
		}
		fewerRows, fewerColumns := impl.GaussCounts(b.k-1, b.n-1), impl.GaussCounts(b.k, b.n-1)
		for size, count := range got {
			is(t, text(what, "of size", size, "by the first row"), text(rowOf(fewerColumns, size)+rowOf(fewerRows, size-b.n+b.k)), text(count))
			is(t, text(what, "of size", size, "by the first column"), text(rowOf(fewerRows, size)+rowOf(fewerColumns, size-b.k)), text(count))
		}
	}
}

func TestGrProductOfFew(t *testing.T) {
	for _, c := range []struct {
		a, b string
		k, n int
		want string
	}{
		{"1", "1", 2, 4, "1:1 1, 1:2"}, {"2 1", "2 1", 2, 4, "0"}, {"2 1", "1", 2, 4, "1:2 2"}, {"1 1", "2", 2, 4, "0"}, {"2 1", "2 1", 3, 6, "1:2 2 2, 2:3 2 1, 1:3 3"}, {"", "", 0, 1, "1:"}, {"", "", 1, 1, "1:"}, {"", "", 0, 7, "1:"}, {"", "", 7, 7, "1:"}, {"1", "1", 1, 2, "0"}, {"1", "", 1, 2, "1:1"},
		{"3 2 1", "3 2 1", 3, 7, "1:4 4 4"}, {"4 4 4", "", 3, 7, "1:4 4 4"}, {"", "4 4 4", 3, 7, "1:4 4 4"}, {"4 4 4", "1", 3, 7, "0"}, {"4 4 4", "4 4 4", 3, 7, "0"}, {"4 3 2", "2 1", 3, 7, "1:4 4 4"}, {"3 3 3", "3", 4, 7, "1:3 3 3 3"}, {"3 3 3 2", "1", 4, 7, "1:3 3 3 3"}, {"4 4 1", "2", 3, 7, "1:4 4 3"}, {"5 4", "1", 2, 7, "1:5 5"},
	} {
		got, ok := impl.GrProduct(numbers(c.a), numbers(c.b), c.k, c.n)
		is(t, text("GrProduct of", c.a, "and", c.b, "in", c.k, c.n), text(impl.FormatParts(got), ok), text(c.want, true))
	}
}

// TestGrProductIsThatOfFillings takes all shapes in all boxes, those that are too
// large for chapter 4 among them, and holds it against puzzles, too.
func TestGrProductIsThatOfFillings(t *testing.T) {
	large := 0
	for _, b := range boxesUpTo(7) {
		for _, x := range b.shapes() {
			for _, y := range b.shapes() {
				what := text("GrProduct of", x, y, "in", b)
				got := b.plain(t, x, y)
				is(t, what+", by fillings", text(got), text(productInBox(t, x, y, b.k, b.n)))
				is(t, what+", by puzzles", text(got, true), text(impl.PuzzleProduct(impl.StringOfShape(x, b.k, b.n), impl.StringOfShape(y, b.k, b.n))))
				isTrue(t, what+", in order", impl.PartsOk(got))
				if total(x) > 8 || total(y) > 8 {
					large++
				}
			}
		}
	}
	isTrue(t, "there are shapes that are too large for ShapeProduct", large > 500)
}

// TestGrProductInAnyOrder takes three shapes, and adds up.
func TestGrProductInAnyOrder(t *testing.T) {
	times := func(b box, l []impl.Part, shape []int) []impl.Part {
		sum := map[string]int{}
		for _, x := range l {
			for _, y := range b.plain(t, x.Shape, shape) {
				sum[impl.FormatInts(y.Shape)] += x.Count * y.Count
			}
		}
		return partsOfShapes(sum)
	}
	for _, b := range append(boxesUpTo(5), box{3, 6}) {
		for _, x := range b.shapes() {
			for _, y := range b.shapes() {
				first := b.plain(t, x, y)
				is(t, text("GrProduct of", x, y, "in", b, "exchanged"), text(b.plain(t, y, x)), text(first))
				for _, z := range b.shapes() {
					is(t, text("GrProduct of", x, y, z, "in", b), text(times(b, first, z)), text(times(b, b.plain(t, y, z), x)))
				}
			}
		}
	}
}

// TestGrProductOfPerms: the classes of the permutations multiply in the same way.
func TestGrProductOfPerms(t *testing.T) {
	for _, b := range boxesUpTo(6) {
		for _, x := range b.shapes() {
			for _, y := range b.shapes() {
				l, ok := impl.MulPerms(impl.GrassmannianPerm(x, b.k, b.n), impl.GrassmannianPerm(y, b.k, b.n))
				if !ok {
					continue
				}
				sum := map[string]int{}
				for _, class := range l {
					if w := impl.EmbedPerm(class.Perm, b.n); len(w) == b.n {
						shape, _, _ := impl.ShapeOfPerm(w)
						sum[impl.FormatInts(shape)] += class.Count
					}
				}
				is(t, text("GrProduct of", x, y, "in", b), text(b.plain(t, x, y)), text(partsOfShapes(sum)))
			}
		}
	}
}

func TestProductsOutside(t *testing.T) {
	for _, b := range boxesUpTo(7) {
		for _, l := range b.notIn() {
			what := brief("of", l, "in", b)
			for _, good := range [][]int{nil, b.full(), l} {
				is(t, "GrProduct "+what, text(impl.GrProduct(l, good, b.k, b.n)), "[] false")
				is(t, "GrProduct, as the second one, "+what, text(impl.GrProduct(good, l, b.k, b.n)), "[] false")
				is(t, "QuantumProduct "+what, text(impl.QuantumProduct(l, good, b.k, b.n)), "[] false")
				is(t, "QuantumProduct, as the second one, "+what, text(impl.QuantumProduct(good, l, b.k, b.n)), "[] false")
				is(t, "GromovWitten "+what, text(impl.GromovWitten(l, good, nil, b.k, b.n, 0)), "-1")
				is(t, "GromovWitten, as the second one, "+what, text(impl.GromovWitten(good, l, nil, b.k, b.n, 0)), "-1")
				is(t, "GromovWitten, as the third one, "+what, text(impl.GromovWitten(good, nil, l, b.k, b.n, 0)), "-1")
			}
			for _, p := range []int{0, 1, b.n - b.k, -1} {
				is(t, text("PieriShapes", p, what), text(impl.PieriShapes(l, b.k, b.n, p)), "[] false")
				is(t, text("QuantumPieri", p, what), text(impl.QuantumPieri(l, b.k, b.n, p)), "[] false")
			}
		}
	}
	for _, b := range notBoxes() {
		for _, l := range [][]int{nil, {1}} {
			is(t, text("GrProduct of", l, "in", b), text(impl.GrProduct(l, l, b.k, b.n)), "[] false")
			is(t, text("QuantumProduct of", l, "in", b), text(impl.QuantumProduct(l, l, b.k, b.n)), "[] false")
			is(t, text("GromovWitten of", l, "in", b), text(impl.GromovWitten(l, l, l, b.k, b.n, 0)), "-1")
			for _, p := range []int{0, 1, -1, math.MinInt, math.MaxInt} {
				is(t, text("PieriShapes of", l, "in", b, p), text(impl.PieriShapes(l, b.k, b.n, p)), "[] false")
				is(t, text("QuantumPieri of", l, "in", b, p), text(impl.QuantumPieri(l, b.k, b.n, p)), "[] false")
			}
		}
	}
}

func TestPieriShapesOfFew(t *testing.T) {
	for _, c := range []struct {
		shape   string
		k, n, p int
		want    string
	}{
		{"1", 2, 4, 1, "1:1 1, 1:2"}, {"1", 2, 4, 0, "1:1"}, {"1", 2, 4, 2, "1:2 1"}, {"2 1", 2, 4, 1, "1:2 2"}, {"2 1", 2, 4, 2, "0"}, {"2 2", 2, 4, 0, "1:2 2"}, {"2 2", 2, 4, 1, "0"}, {"", 0, 1, 0, "1:"}, {"", 0, 1, 1, "0"}, {"", 0, 7, 7, "0"}, {"", 0, 7, 0, "1:"}, {"", 1, 1, 0, "1:"}, {"", 7, 7, 0, "1:"},
		{"", 3, 7, 4, "1:4"}, {"2 1", 3, 7, 2, "1:2 2 1, 1:3 1 1, 1:3 2, 1:4 1"}, {"1 1", 3, 7, 3, "1:3 1 1, 1:4 1"}, {"1 1", 3, 7, 4, "1:4 1 1"}, {"3 1", 3, 7, 4, "1:4 3 1"}, {"4 2", 3, 7, 4, "1:4 4 2"}, {"4 2", 3, 7, 3, "1:4 3 2, 1:4 4 1"},
	} {
		got, ok := impl.PieriShapes(numbers(c.shape), c.k, c.n, c.p)
		is(t, text("PieriShapes of", c.shape, "in", c.k, c.n, "with", c.p), text(impl.FormatParts(got), ok), text(c.want, true))
	}
}

// pieriByDefinition tries all shapes in the box.
func (b box) pieriByDefinition(shape []int, p int) []impl.Part {
	var l []impl.Part
	for _, c := range b.shapes() {
		fits := total(c) == total(shape)+p
		for i := range b.k {
			fits = fits && rowOf(c, i) >= rowOf(shape, i) && (i == 0 || rowOf(c, i) <= rowOf(shape, i-1))
		}
		if fits {
			l = append(l, impl.Part{Shape: c, Count: 1})
		}
	}
	return l
}

// TestPieriShapes holds it against its definition, and against the products with a row;
// a column is a row in the box with rows and columns exchanged.
func TestPieriShapes(t *testing.T) {
	for _, b := range boxesUpTo(7) {
		for _, shape := range b.shapes() {
			for p := range b.n - b.k + 1 {
				what := text("PieriShapes of", shape, "in", b, "with", p)
				got, ok := impl.PieriShapes(shape, b.k, b.n, p)
				is(t, what, text(got, ok), text(b.pieriByDefinition(shape, p), true))
				if b.k == 0 && p > 0 {
					continue
				}
				row := trimmedRows([]int{p})
				is(t, what+", as a product", text(got), text(b.plain(t, shape, row)))
				turned := map[string]int{}
				for _, part := range (box{b.n - b.k, b.n}).plain(t, conjugate(shape), conjugate(row)) {
					turned[impl.FormatInts(conjugate(part.Shape))] = part.Count
				}
				is(t, what+", as a product with a column", text(got), text(partsOfShapes(turned)))
			}
			for _, p := range append(sizesOutside(), b.n-b.k+1) {
				is(t, text("PieriShapes of", shape, "in", b, "with", p), text(impl.PieriShapes(shape, b.k, b.n, p)), "[] false")
				is(t, text("QuantumPieri of", shape, "in", b, "with", p), text(impl.QuantumPieri(shape, b.k, b.n, p)), "[] false")
			}
		}
	}
}

func TestIntersectionNumberOfFew(t *testing.T) {
	for _, c := range []struct {
		shapes string
		k, n   int
		want   int
	}{
		{"1, 1, 1, 1", 2, 4, 2}, {"1, 1, 1", 2, 4, 0}, {"1, 1, 1, 1, 1", 2, 4, 0}, {"2, 2", 2, 4, 1}, {"2, 1 1", 2, 4, 0}, {"2, 1, 1", 2, 4, 1}, {"2 2", 2, 4, 1}, {"2 1", 2, 4, 0}, {"2 2, ", 2, 4, 1}, {", 2 2, ", 2, 4, 1}, {"2 1, 2 1, 2 1", 3, 6, 2}, {"", 0, 7, 1}, {"", 7, 7, 1}, {", , ", 7, 7, 1}, {", ", 0, 1, 1},
		{"", 1, 1, 1}, {"", 1, 2, 0}, {"", 3, 7, 0}, {"1", 1, 2, 1}, {"1, 1, 1, 1, 1, 1, 1, 1, 1, 1, 1, 1", 3, 7, 462}, {"1, 1, 1, 1, 1, 1, 1, 1, 1, 1, 1, 1", 4, 7, 462}, {"1, 1, 1, 1, 1, 1", 1, 7, 1}, {"3, 3", 1, 7, 1}, {"3, 2, 1", 1, 7, 1}, {"3 1, 3 1, 2 2", 3, 7, 1}, {"3 2 1, 3 2 1", 3, 7, 1}, {"4 4 4", 3, 7, 1}, {"4 4 4, 1", 3, 7, 0},
	} {
		is(t, text("IntersectionNumber of", c.shapes, "in", c.k, c.n), text(impl.IntersectionNumber(rows(c.shapes), c.k, c.n)), text(c.want))
	}
	is(t, "IntersectionNumber of no shapes", text(impl.IntersectionNumber(nil, 2, 4), impl.IntersectionNumber([][]int{}, 1, 2), impl.IntersectionNumber(nil, 0, 4), impl.IntersectionNumber([][]int{}, 4, 4), impl.IntersectionNumber(nil, 1, 1)), "0 0 1 1 1")
}

// TestShapesMeetInOnePoint: two shapes do so just if they are dual.
func TestShapesMeetInOnePoint(t *testing.T) {
	for _, b := range boxesUpTo(7) {
		for _, x := range b.shapes() {
			is(t, text("IntersectionNumber of", x, "in", b), text(impl.IntersectionNumber([][]int{x}, b.k, b.n)), text(btoi(slices.Equal(x, b.full()))))
			for _, y := range b.shapes() {
				is(t, text("IntersectionNumber of", x, y, "in", b), text(impl.IntersectionNumber([][]int{x, y}, b.k, b.n)), text(btoi(slices.Equal(y, b.dual(x)))))
			}
		}
	}
}

// TestThreeShapesMeet: their number is that of puzzles with the three sides, turned
// round, and that of fillings.
func TestThreeShapesMeet(t *testing.T) {
	for _, b := range append(boxesUpTo(5), box{2, 6}, box{3, 6}, box{4, 6}, box{2, 7}) {
		for _, x := range b.shapes() {
			for _, y := range b.shapes() {
				for _, z := range b.shapes() {
					got := impl.IntersectionNumber([][]int{x, y, z}, b.k, b.n)
					what := text("IntersectionNumber of", x, y, z, "in", b)
					third := reversed(impl.StringOfShape(z, b.k, b.n))
					is(t, what, text(got), text(impl.CountPuzzles(impl.StringOfShape(x, b.k, b.n), impl.StringOfShape(y, b.k, b.n), third)))
					is(t, what+", in another order", text(impl.IntersectionNumber([][]int{z, x, y}, b.k, b.n)), text(got))
					if total(x) <= 8 && total(y) <= 8 {
						is(t, what+", by fillings", text(got), text(impl.LrCount(x, y, b.dual(z))))
					}
				}
			}
		}
	}
}

// TestIntersectionNumberInAnyOrder takes lists of shapes that fill a box.
func TestIntersectionNumberInAnyOrder(t *testing.T) {
	found := map[int]bool{}
	for _, s := range []string{"2 1, 2 2, 1 1, 3", "1, 1, 2, 2 1, 1 1, 3", "3, 3, 3, 3", "2 2 1, 1 1, 3 2", "1 1 1, 2 1, 1, 1, 4", "2, 1 1, 2, 1 1, 2, 1 1", "2 1, 2 1, 2 1, 2 1", "4 4, 2 1, 1"} {
		for _, b := range []box{{3, 7}, {4, 7}} {
			shapes := rows(s)
			if b.k == 4 {
				for i, shape := range shapes {
					shapes[i] = conjugate(shape)
				}
			}
			want := impl.IntersectionNumber(shapes, b.k, b.n)
			found[want] = true
			for shift := range len(shapes) {
				turned := slices.Concat(shapes[shift:], shapes[:shift])
				is(t, text("IntersectionNumber of", turned, "in", b), text(impl.IntersectionNumber(turned, b.k, b.n)), text(want))
				slices.Reverse(turned)
				is(t, text("IntersectionNumber of", turned, "in", b), text(impl.IntersectionNumber(turned, b.k, b.n)), text(want))
			}
		}
	}
	isTrue(t, "there are many numbers", len(found) > 5)
}

func TestIntersectionNumberOfNone(t *testing.T) {
	for _, b := range notBoxes() {
		for _, shapes := range [][][]int{nil, {}, {nil}, {{}}, {{1}}, {{1}, {1}}, make([][]int, 12), make([][]int, 13)} {
			is(t, text("IntersectionNumber of", shapes, "in", b), text(impl.IntersectionNumber(shapes, b.k, b.n)), "-1")
		}
	}
	for _, b := range boxesUpTo(7) {
		for _, l := range b.notIn() {
			for _, shapes := range [][][]int{{l}, {nil, l}, {l, nil}, {b.full(), l}, {b.full(), b.full(), b.full(), l}, append(make([][]int, 11), l), slices.Insert(make([][]int, 5), 2, l)} {
				is(t, text("IntersectionNumber in", b, "with", brief(l), "among", len(shapes)), text(impl.IntersectionNumber(shapes, b.k, b.n)), "-1")
			}
		}
		empty := make([][]int, 13)
		is(t, text("IntersectionNumber of 13 empty shapes in", b), text(impl.IntersectionNumber(empty, b.k, b.n)), "-1")
		is(t, text("IntersectionNumber of 100000 empty shapes in", b), text(impl.IntersectionNumber(make([][]int, 100000), b.k, b.n)), "-1")
		is(t, text("IntersectionNumber of 12 empty shapes in", b), text(impl.IntersectionNumber(empty[:12], b.k, b.n)), text(btoi(len(b.full()) == 0)))
		empty[5] = b.full()
		is(t, text("IntersectionNumber of the full shape among 12 in", b), text(impl.IntersectionNumber(empty[:12], b.k, b.n)), "1")
		is(t, text("IntersectionNumber of the full shape among 13 in", b), text(impl.IntersectionNumber(empty, b.k, b.n)), "-1")
	}
}

// TestDegreeOfGr: it is the number of points in which shapes of one cell meet, as many
// as there is room for.
func TestDegreeOfGr(t *testing.T) {
	for _, c := range []struct{ k, n, want int }{{0, 1, 1}, {1, 1, 1}, {1, 2, 1}, {2, 4, 2}, {2, 5, 5}, {3, 5, 5}, {2, 6, 14}, {3, 6, 42}, {2, 7, 42}, {3, 7, 462}, {4, 7, 462}, {5, 7, 42}, {1, 7, 1}, {6, 7, 1}, {0, 7, 1}, {7, 7, 1}} {
		is(t, text("DegreeOfGr of", c.k, c.n), text(impl.DegreeOfGr(c.k, c.n)), text(c.want))
	}
	known := standardFinder{}
	for _, b := range boxesUpTo(7) {
		got := impl.DegreeOfGr(b.k, b.n)
		is(t, text("DegreeOfGr of", b), text(got), text(known.of(b.full())))
		if b.k == 0 || b.k == b.n {
			continue
		}
		var single [][]int
		for range b.k * (b.n - b.k) {
			single = append(single, []int{1})
		}
		is(t, text("IntersectionNumber of shapes of one cell in", b), text(impl.IntersectionNumber(single, b.k, b.n)), text(got))
		is(t, text("IntersectionNumber of one less in", b), text(impl.IntersectionNumber(single[1:], b.k, b.n)), "0")
	}
	for _, b := range notBoxes() {
		is(t, text("DegreeOfGr of", b), text(impl.DegreeOfGr(b.k, b.n)), "-1")
	}
}
