package tests

import (
	"slices"
	"testing"

	"loop.example/g03113/impl"
)

func (b box) string(shape []int) []int { return impl.StringOfShape(shape, b.k, b.n) }

func (b box) perm(shape []int) []int { return impl.GrassmannianPerm(shape, b.k, b.n) }

// withoutQ returns what has no q.
func withoutQ(l []impl.QPart) []impl.Part {
	var plain []impl.Part
	for _, part := range l {
		if part.Power == 0 {
			plain = append(plain, impl.Part{Shape: part.Shape, Count: part.Count})
		}
	}
	return plain
}

// shapesOfClasses returns the shapes in the box whose permutations occur in a sum of
// classes. The permutation of the empty shape has no descent.
func (b box) shapesOfClasses(l []impl.Class) []impl.Part {
	counts := map[string]int{}
	for _, class := range l {
		w := impl.EmbedPerm(class.Perm, b.n)
		if shape, k, ok := impl.ShapeOfPerm(w); ok && k == b.k {
			counts[impl.FormatInts(shape)] = class.Count
		} else if len(w) == b.n && impl.LengthOf(w) == 0 {
			counts[""] = class.Count
		}
	}
	return partsOfShapes(counts)
}

// ofSize returns the shapes of a size.
func ofSize(l []impl.Part, size int) []impl.Part {
	return slices.DeleteFunc(l, func(part impl.Part) bool { return total(part.Shape) != size })
}

// byPoints finds a product by the points in which both shapes meet each third one.
func (b box) byPoints(count func(z []int) int) []impl.Part {
	counts := map[string]int{}
	for _, z := range b.shapes() {
		counts[impl.FormatInts(b.dual(z))] = count(z)
	}
	for shape, count := range counts {
		if count == 0 {
			delete(counts, shape)
		}
	}
	return partsOfShapes(counts)
}

// TestRoadsToAProduct takes all shapes in all boxes: fillings, puzzles, permutations,
// quantum products without q, and points lead to one product.
func TestRoadsToAProduct(t *testing.T) {
	byPerms := 0
	for _, b := range boxesUpTo(7) {
		for _, x := range b.shapes() {
			for _, y := range b.shapes() {
				what := text("the product of", x, y, "in", b, "by ")
				want := impl.FormatParts(b.plain(t, x, y))
				puzzles, ok := impl.PuzzleProduct(b.string(x), b.string(y))
				is(t, what+"puzzles", text(impl.FormatParts(puzzles), ok), text(want, true))
				if total(x) <= 8 && total(y) <= 8 {
					is(t, what+"fillings", impl.FormatParts(productInBox(t, x, y, b.k, b.n)), want)
				}
				if b.k > 0 {
					is(t, what+"what has no q", impl.FormatParts(withoutQ(b.quantum(t, x, y))), want)
				}
				if classes, ok := impl.MulPerms(b.perm(x), b.perm(y)); ok {
					is(t, what+"permutations", impl.FormatParts(b.shapesOfClasses(classes)), want)
					byPerms++
				}
				points := b.byPoints(func(z []int) int { return impl.IntersectionNumber([][]int{x, y, z}, b.k, b.n) })
				is(t, what+"points", impl.FormatParts(points), want)
			}
		}
	}
	isTrue(t, text("there are", byPerms, "products of permutations"), byPerms > 1000)
}

// TestRoadsWithWeights: where sizes add, weights do not matter.
func TestRoadsWithWeights(t *testing.T) {
	for _, b := range boxesUpTo(4) {
		for _, x := range b.shapes() {
			for _, y := range b.shapes() {
				want := impl.FormatParts(b.plain(t, x, y))
				for _, shifts := range differentShifts(b.n) {
					what := text("the product of", x, y, "in", b, "with", shifts, "by ")
					is(t, what+"values", impl.FormatParts(ofSize(b.shapesTimes(t, x, y, shifts), total(x)+total(y))), want)
					is(t, what+"weighted puzzles", impl.FormatParts(ofSize(weightedProduct(t, b.string(x), b.string(y), shifts), total(x)+total(y))), want)
				}
			}
		}
	}
}

// TestThreeShapesMeetByAllRoads: they meet in as many points as the product of two says
// of the dual shape of the third.
func TestThreeShapesMeetByAllRoads(t *testing.T) {
	for _, b := range append(boxesUpTo(5), box{2, 6}, box{3, 6}) {
		for _, x := range b.shapes() {
			for _, y := range b.shapes() {
				counts := map[string]int{}
				for _, part := range b.plain(t, x, y) {
					counts[text(part.Shape)] = part.Count
				}
				for _, z := range b.shapes() {
					what := text("the points of", x, y, z, "in", b, "by ")
					dual := impl.DualShape(z, b.k, b.n)
					want := text(counts[text(dual)])
					is(t, what+"products", text(impl.IntersectionNumber([][]int{x, y, z}, b.k, b.n)), want)
					is(t, what+"puzzles", text(impl.CountPuzzles(b.string(x), b.string(y), b.string(dual))), want)
					if b.k > 0 {
						is(t, what+"what has no q", text(impl.GromovWitten(x, y, z, b.k, b.n, 0)), want)
					}
					if total(x) <= 8 && total(y) <= 8 {
						is(t, what+"fillings", text(impl.LrCount(x, y, dual)), want)
					}
				}
			}
		}
	}
}

// TestRoadsInSessions: the lines say the same, whether shapes are multiplied or the
// permutations that belong to them.
func TestRoadsInSessions(t *testing.T) {
	for _, b := range boxesUpTo(5) {
		for _, x := range b.shapes() {
			for _, y := range b.shapes() {
				outputs := run(t, "perm "+impl.FormatPerm(b.perm(x)), "set", "perm "+impl.FormatPerm(b.perm(y)), "times")
				if product := outputs[3]; product != "no" {
					is(t, text("the lines for the product of", x, y, "in", b), impl.FormatParts(b.shapesOfClasses(sum(product))), impl.FormatParts(b.plain(t, x, y)))
				}
			}
			b.checkSquare(t, x)
		}
	}
}

// checkSquare asks a session for the square of a shape in more than one way.
func (b box) checkSquare(t *testing.T, x []int) {
	t.Helper()
	outputs := run(t, "box "+impl.FormatInts([]int{b.k, b.n}), "shape "+impl.FormatInts(x), "square", "quantum", "perm "+impl.FormatPerm(b.perm(x)), "shape", "square", "string", "dual", "dual")
	what := text("the lines for the square of", x, "in", b)
	want := impl.FormatParts(b.plain(t, x, x))
	is(t, what, text(outputs[:3]), text([]string{"ok", "ok", want}))
	if b.k > 0 {
		is(t, what+", without q", impl.FormatParts(withoutQ(qparts(outputs[3]))), want)
	}
	if len(x) == 0 {
		is(t, what+", by its permutation", outputs[5], "no")
		return
	}
	is(t, what+", by its permutation", text(outputs[4:]), text([]string{"ok", impl.FormatInts(x), want, impl.FormatInts(b.string(x)), impl.FormatInts(b.dual(x)), impl.FormatInts(x)}))
}
