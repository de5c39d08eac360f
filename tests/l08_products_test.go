package tests

import (
	"slices"
	"testing"

	"loop.example/g03113/impl"
)

// equivariant returns EquivariantProduct, which must succeed.
func equivariant(t *testing.T, u []int, v []int, y []int) []impl.Class {
	t.Helper()
	l, ok := impl.EquivariantProduct(u, v, y)
	isTrue(t, text("EquivariantProduct of", u, v, "with", y, "succeeds"), ok)
	return l
}

func TestEquivariantProductOfFew(t *testing.T) {
	for _, c := range []struct{ u, v, y, want string }{
		{"1", "1", "-9", "1:1"}, {"12", "12", "2 5", "1:1"}, {"12", "21", "2 5", "1:21"}, {"21", "21", "2 5", "3:21"}, {"21", "21", "5 2", "-3:21"}, {"21", "21", "-9 9", "18:21"}, {"213", "132", "1 4 6", "1:231, 1:312"}, {"213", "213", "1 4 6", "3:21, 1:312"}, {"132", "132", "1 4 6", "2:132, 1:231"},
		{"132", "132", "6 4 1", "-3:132, 1:231"}, {"231", "231", "1 4 6", "15:231"}, {"312", "312", "1 4 6", "10:312"}, {"231", "312", "1 4 6", "5:321"}, {"321", "321", "1 4 6", "30:321"}, {"123", "231", "1 4 6", "1:231"}, {"213", "231", "1 4 6", "3:231, 1:321"}, {"132", "312", "1 4 6", "2:312, 1:321"},
		{"4321", "4321", "-9 -4 4 9", "608400:4321"}, {"4321", "1234", "-9 -4 4 9", "1:4321"}, {"1324", "1324", "0 1 2 3", "1:132, 1:1423, 1:231"}, {"2143", "2143", "0 1 2 3", "1:2143, 1:2341, 3:3142, 1:3241, 1:4123, 1:4132"},
	} {
		is(t, text("EquivariantProduct of", c.u, c.v, "with", c.y), text(impl.EquivariantProduct(perm(c.u), perm(c.v), numbers(c.y))), text(sum(c.want), true))
	}
}

// TestEquivariantProductIsThatOfValues: the values of both, multiplied, are the sum of
// the values of the classes.
func TestEquivariantProductIsThatOfValues(t *testing.T) {
	for n := 1; n <= 4; n++ {
		for _, y := range differentShifts(n) {
			known := tables(t, y)
			for _, u := range permsOf(n) {
				for _, v := range permsOf(n) {
					l := equivariant(t, u, v, y)
					what := text("EquivariantProduct of", u, v, "with", y)
					isTrue(t, what+" is a sum of classes", impl.ClassesOk(l))
					product := pointwise(known[text(u)], known[text(v)])
					is(t, what+": its values", text(valuesOf(l, known, n)), text(product))
					is(t, what+", by ExpandLocal", text(l, true), text(impl.ExpandLocal(n, product, y)))
					is(t, what+", exchanged", text(l), text(equivariant(t, v, u, y)))
				}
			}
		}
	}
}

// TestEquivariantProductIsAbove: all classes are those of permutations above both
// factors, none longer than both together; with numbers that ascend, none has a number
// below 0; where lengths add, the numbers are those of MulPerms, whatever y is.
func TestEquivariantProductIsAbove(t *testing.T) {
	negative := 0
	for n := 1; n <= 4; n++ {
		for _, u := range permsOf(n) {
			for _, v := range permsOf(n) {
				length := inversionsOf(u) + inversionsOf(v)
				plain, ok := impl.MulPerms(u, v)
				isTrue(t, text("MulPerms of", u, v, "succeeds"), ok)
				plain = slices.DeleteFunc(plain, func(class impl.Class) bool { return len(class.Perm) > n })
				for _, y := range differentShifts(n) {
					what := text("EquivariantProduct of", u, v, "with", y)
					l := equivariant(t, u, v, y)
					for _, class := range l {
						w := embedded(class.Perm, n)
						isTrue(t, text(what, "is above both at", w), isBelow(u, w) && isBelow(v, w) && inversionsOf(w) <= length)
						isTrue(t, text(what, "is not below 0 at", w), class.Count > 0 || !isAscending(y))
						if class.Count < 0 {
							negative++
						}
					}
					l = slices.DeleteFunc(l, func(class impl.Class) bool { return inversionsOf(class.Perm) < length })
					is(t, what+", where lengths add", text(l), text(plain))
				}
			}
		}
	}
	isTrue(t, text("there are numbers below 0:", negative), negative > 500)
}

// swapProduct is the product with the swap k: w itself, times the sum of the numbers at
// the places up to k less that of the first ones, and the covers of w that exchange one
// of these places with one behind them.
func swapProduct(w []int, k int, y []int) []impl.Class {
	var l []impl.Class
	own := 0
	for i := range k + 1 {
		own += y[w[i]] - y[i]
		for j := k + 1; j < len(w); j++ {
			if cover := exchanged(w, i, j); inversionsOf(cover) == inversionsOf(w)+1 {
				l = append(l, impl.Class{Perm: trimmed(cover), Count: 1})
			}
		}
	}
	if own != 0 {
		l = append(l, impl.Class{Perm: trimmed(w), Count: own})
	}
	slices.SortFunc(l, func(a, b impl.Class) int { return slices.Compare(a.Perm, b.Perm) })
	return l
}

func TestEquivariantProductWithSwap(t *testing.T) {
	for n := 1; n <= 4; n++ {
		for _, y := range differentShifts(n) {
			for _, w := range permsOf(n) {
				is(t, text("EquivariantProduct of the identity and", w, "with", y), text(equivariant(t, ascending(n), w, y)), text([]impl.Class{{Perm: trimmed(w), Count: 1}}))
				for k := range n - 1 {
					want := text(swapProduct(w, k, y))
					is(t, text("EquivariantProduct of the swap", k, "and", w, "with", y), text(equivariant(t, swapOf(n, k), w, y)), want)
					is(t, text("EquivariantProduct of", w, "and the swap", k, "with", y), text(equivariant(t, w, swapOf(n, k), y)), want)
				}
			}
		}
	}
}

// TestEquivariantProductOfThree: it does not matter which two are multiplied first.
func TestEquivariantProductOfThree(t *testing.T) {
	times := func(l []impl.Class, w []int, y []int) string {
		counts := map[string]int{}
		for _, class := range l {
			for _, c := range equivariant(t, embedded(class.Perm, len(w)), w, y) {
				counts[impl.FormatPerm(c.Perm)] += class.Count * c.Count
			}
		}
		return text(counts)
	}
	perms := append(permsOf(3), perm("2143"), perm("1324"), perm("3142"), perm("1432"), perm("2341"))
	for _, u := range perms {
		for _, v := range perms {
			for _, w := range perms {
				if len(u) == len(v) && len(v) == len(w) {
					y := []int{3, -2, 4, 8}[:len(u)]
					is(t, text("EquivariantProduct of three", u, v, w), times(equivariant(t, u, v, y), w, y), times(equivariant(t, v, w, y), u, y))
				}
			}
		}
	}
}

func TestEquivariantProductOutside(t *testing.T) {
	for _, l := range notPerms() {
		for n := 1; n <= 5; n++ {
			for _, w := range [][]int{ascending(n), impl.LongestPerm(n), l} {
				is(t, brief("EquivariantProduct of", l, w), text(impl.EquivariantProduct(l, w, ascending(n))), "[] false")
				is(t, brief("EquivariantProduct of", w, l), text(impl.EquivariantProduct(w, l, ascending(n))), "[] false")
			}
		}
	}
	for n := 1; n <= 7; n++ {
		for m := 1; m <= 7; m++ {
			for length := range 8 {
				_, ok := impl.EquivariantProduct(ascending(n), impl.LongestPerm(m), ascending(length))
				is(t, text("EquivariantProduct of", n, m, "succeeds with", length), text(ok), text(n == m && n <= 4 && length == n))
			}
		}
	}
	for n := 1; n <= 4; n++ {
		for _, y := range notDifferentShifts(n) {
			for _, w := range [][]int{ascending(n), impl.LongestPerm(n)} {
				is(t, brief("EquivariantProduct of", w, "with", y), text(impl.EquivariantProduct(w, w, y)), "[] false")
			}
		}
	}
}

// shapesTimes returns EquivariantShapes, which must succeed.
func (b box) shapesTimes(t *testing.T, x []int, z []int, y []int) []impl.Part {
	t.Helper()
	l, ok := impl.EquivariantShapes(x, z, b.k, b.n, y)
	isTrue(t, text("EquivariantShapes of", x, z, "in", b, "with", y, "succeeds"), ok)
	return l
}

func TestEquivariantShapesOfFew(t *testing.T) {
	for _, c := range []struct {
		a, b string
		k, n int
		y    string
		want string
	}{
		{"1", "1", 1, 2, "2 5", "3:1"}, {"1", "1", 1, 2, "5 2", "-3:1"}, {"", "1", 1, 2, "2 5", "1:1"}, {"", "", 1, 2, "2 5", "1:"}, {"", "", 0, 1, "9", "1:"}, {"", "", 1, 1, "-9", "1:"}, {"", "", 0, 4, "1 3 9 4", "1:"}, {"", "", 4, 4, "1 3 9 4", "1:"},
		{"1", "1", 2, 4, "1 3 9 4", "6:1, 1:1 1, 1:2"}, {"1", "1", 1, 3, "1 3 9", "2:1, 1:2"}, {"1", "2", 1, 3, "1 3 9", "8:2"}, {"2", "2", 1, 3, "1 3 9", "48:2"}, {"1", "1", 2, 3, "1 3 9", "6:1, 1:1 1"}, {"1 1", "1 1", 2, 3, "1 3 9", "16:1 1"}, {"2 2", "2 2", 2, 4, "0 1 2 3", "12:2 2"},
		{"1", "2 2", 2, 4, "0 1 2 3", "4:2 2"}, {"3", "3", 1, 4, "-9 -4 4 9", "1170:3"}, {"1 1 1", "1", 3, 4, "-9 -4 4 9", "18:1 1 1"}, {"2", "1 1", 2, 4, "0 1 2 3", "3:2 1"},
	} {
		is(t, text("EquivariantShapes of", c.a, c.b, c.k, c.n, "with", c.y), impl.FormatParts(box{c.k, c.n}.shapesTimes(t, numbers(c.a), numbers(c.b), numbers(c.y))), c.want)
	}
}

// TestEquivariantShapesByOtherFunctions: they are all that EquivariantProduct has, what
// weighted puzzles have and, where sizes add, what fillings have.
func TestEquivariantShapesByOtherFunctions(t *testing.T) {
	for _, b := range boxesUpTo(4) {
		for _, x := range b.shapes() {
			for _, z := range b.shapes() {
				plain := productInBox(t, x, z, b.k, b.n)
				for _, y := range differentShifts(b.n) {
					what := text("EquivariantShapes of", x, z, "in", b, "with", y)
					l := b.shapesTimes(t, x, z, y)
					isTrue(t, what+" is in order", impl.PartsOk(l))
					is(t, what+", as permutations", text(b.classesOf(l), true), text(impl.EquivariantProduct(impl.GrassmannianPerm(x, b.k, b.n), impl.GrassmannianPerm(z, b.k, b.n), y)))
					is(t, what+", by puzzles", text(l, true), text(impl.WeightedProduct(impl.StringOfShape(x, b.k, b.n), impl.StringOfShape(z, b.k, b.n), y)))
					is(t, what+", exchanged", text(l), text(b.shapesTimes(t, z, x, y)))
					for _, part := range l {
						isTrue(t, what+" has shapes that contain both", impl.ContainsShape(part.Shape, x) && impl.ContainsShape(part.Shape, z))
						isTrue(t, what+" is not below 0", part.Count > 0 || !isAscending(y))
					}
					l = slices.DeleteFunc(l, func(part impl.Part) bool { return total(part.Shape) < total(x)+total(z) })
					is(t, what+", where sizes add", text(l), text(plain))
				}
			}
		}
	}
}

// classesOf returns the trimmed permutations of shapes, in ascending order.
func (b box) classesOf(l []impl.Part) []impl.Class {
	var classes []impl.Class
	for _, part := range l {
		classes = append(classes, impl.Class{Perm: trimmed(impl.GrassmannianPerm(part.Shape, b.k, b.n)), Count: part.Count})
	}
	slices.SortFunc(classes, func(a, b impl.Class) int { return slices.Compare(a.Perm, b.Perm) })
	return classes
}

func TestEquivariantShapesOutside(t *testing.T) {
	for _, b := range boxesUpTo(4) {
		y := ascending(b.n)
		for _, l := range b.notIn() {
			for _, shape := range [][]int{nil, b.full(), l} {
				is(t, brief("EquivariantShapes of", l, shape, "in", b), text(impl.EquivariantShapes(l, shape, b.k, b.n, y)), "[] false")
				is(t, brief("EquivariantShapes of", shape, l, "in", b), text(impl.EquivariantShapes(shape, l, b.k, b.n, y)), "[] false")
			}
		}
		for _, y := range notDifferentShifts(b.n) {
			for _, shape := range [][]int{nil, b.full()} {
				is(t, brief("EquivariantShapes of", shape, "in", b, "with", y), text(impl.EquivariantShapes(shape, shape, b.k, b.n, y)), "[] false")
			}
		}
		is(t, text("EquivariantShapes of the full shape of", b), text(len(b.shapesTimes(t, b.full(), b.full(), y))), "1")
	}
	for _, b := range append(notBoxes(), boxesUpTo(7)...) {
		for length := range 8 {
			_, ok := impl.EquivariantShapes(nil, nil, b.k, b.n, ascending(length))
			is(t, text("EquivariantShapes of empty shapes in", b, "succeeds with", length), text(ok), text(b.n >= 1 && b.n <= 4 && b.k >= 0 && b.k <= b.n && length == b.n))
		}
	}
}
