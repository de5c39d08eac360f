package tests

import (
	"math"
	"slices"
	"testing"

	"loop.example/g03113/impl"
)

func TestWrapShapeOfFew(t *testing.T) {
	for _, c := range []struct {
		shape string
		k, n  int
		want  string
	}{
		{"3 1", 2, 4, "1:q1:"}, {"3", 2, 4, ""}, {"4", 2, 4, "-1:q1:"}, {"4 1", 2, 4, ""}, {"4 2", 2, 4, "1:q1:1 1"}, {"5", 2, 4, "-1:q1:1"}, {"3 3", 2, 4, "1:q1:2"}, {"4 4", 2, 4, "1:q2:"}, {"2 2", 2, 4, "1:q0:2 2"}, {"", 2, 4, "1:q0:"}, {"5 1", 2, 4, "-1:q1:1 1"}, {"6", 2, 4, "-1:q1:2"}, {"8", 2, 4, "1:q2:"}, {"12", 2, 4, "-1:q3:"},
		{"16", 1, 1, "1:q16:"}, {"", 1, 1, "1:q0:"}, {"1", 1, 1, "1:q1:"}, {"16 16", 2, 2, "1:q16:"}, {"1", 2, 2, ""}, {"2", 2, 2, "-1:q1:"}, {"1 1", 2, 2, "1:q1:"}, {"7", 1, 7, "1:q1:"}, {"6", 1, 7, "1:q0:6"}, {"16", 1, 7, "1:q2:2"}, {"13", 1, 7, "1:q1:6"},
		{"5", 3, 7, ""}, {"5 1", 3, 7, ""}, {"5 1 1", 3, 7, "1:q1:"}, {"6 1", 3, 7, "-1:q1:"}, {"7", 3, 7, "1:q1:"}, {"16 16 16 16 16 16 16", 7, 7, "1:q16:"}, {"1 1 1 1 1 1 1", 7, 7, "1:q1:"}, {"7", 7, 7, "1:q1:"}, {"6", 6, 7, ""}, {"7", 6, 7, "-1:q1:"}, {"2 1 1 1 1 1", 6, 7, "1:q1:"}, {"6 6 6", 3, 7, "1:q2:4"},
	} {
		want := text(impl.QPart{}, false)
		if c.want != "" {
			want = text(qparts(c.want)[0], true)
		}
		is(t, text("WrapShape of", c.shape, "around", c.k, c.n), text(impl.WrapShape(numbers(c.shape), c.k, c.n)), want)
	}
}

// wrapByDefinition does what the definition says, in its order.
func (b box) wrapByDefinition(shape []int) (impl.QPart, bool) {
	part := impl.QPart{}
	var e []int
	for i := range b.k {
		e = append(e, rowOf(shape, i)+b.k-1-i)
	}
	for i := range e {
		part.Power += e[i] / b.n
		e[i] %= b.n
	}
	exchanges := (b.k - 1) * part.Power
	for i := range e {
		if slices.Contains(e[:i], e[i]) {
			return impl.QPart{}, false
		}
		for j := i + 1; j < len(e); j++ {
			exchanges += btoi(e[i] < e[j])
		}
	}
	part.Count = 1 - exchanges%2*2
	slices.Sort(e)
	for i := range e {
		if length := e[b.k-1-i] - (b.k - 1 - i); length > 0 {
			part.Shape = append(part.Shape, length)
		}
	}
	return part, true
}

// someRows returns shapes of at most k rows: many small ones, and some that are wrapped
// many times.
func (b box) someRows() [][]int {
	var all [][]int
	for _, shape := range append(append(someShapes(), shapesUpTo(11)...), b.shapes()...) {
		all = append(all, shape)
		for _, more := range []int{3, b.n - b.k, b.n, 10} {
			wide := append(slices.Clone(shape), make([]int, b.k)...)[:max(b.k, len(shape))]
			for i := range wide {
				wide[i] += more
			}
			all = append(all, trimmedRows(wide))
		}
	}
	return slices.DeleteFunc(all, func(l []int) bool { return len(l) > b.k || rowOf(l, 0) > 16 })
}

// TestWrapShape holds it against its definition, and against rims that are taken away.
func TestWrapShape(t *testing.T) {
	met := map[string]int{}
	for _, b := range quantumBoxesUpTo(7) {
		for _, shape := range b.someRows() {
			what := text("WrapShape of", shape, "around", b)
			got, ok := impl.WrapShape(shape, b.k, b.n)
			is(t, what, text(got, ok), text(b.wrapByDefinition(shape)))
			power, left, sign := b.unhooked(shape)
			is(t, what+", by rims", text(got, ok), text(impl.QPart{Power: power, Shape: left, Count: sign}, sign != 0))
			met[text("the sign", sign, "behind", min(power, 3))]++
			if ok {
				isTrue(t, what+" is in the box", impl.IsInBox(got.Shape, b.k, b.n))
				is(t, what+", the cells", text(total(got.Shape)+b.n*got.Power), text(total(shape)))
			}
		}
		for _, shape := range b.shapes() {
			is(t, text("WrapShape of", shape, "in", b), text(impl.WrapShape(shape, b.k, b.n)), text(impl.QPart{Shape: shape, Count: 1}, true))
		}
	}
	for _, kind := range []string{"the sign 1 behind 0", "the sign 0 behind 0", "the sign 1 behind 1", "the sign -1 behind 1", "the sign 1 behind 2", "the sign -1 behind 2", "the sign 1 behind 3", "the sign -1 behind 3"} {
		isTrue(t, kind+" is met", met[kind] > 100)
	}
}

func TestWrapShapeOfNone(t *testing.T) {
	const nothing = "{0 [] 0} false"
	for _, b := range quantumBoxesUpTo(7) {
		for _, l := range append(notShapes(), repeated(1, b.k+1), repeated(16, b.k+1), append([]int{b.n - b.k + 1}, repeated(1, b.k)...), repeated(1, 16), repeated(16, 16)) {
			is(t, brief("WrapShape of", l, "around", b), text(impl.WrapShape(l, b.k, b.n)), nothing)
		}
		is(t, text("WrapShape of k rows around", b), text(impl.WrapShape(repeated(b.n, b.k), b.k, b.n)), text(impl.QPart{Power: b.k, Count: 1}, true))
	}
	for _, b := range append(notBoxes(), box{0, 1}, box{0, 2}, box{0, 7}, box{0, 4}) {
		for _, shape := range [][]int{nil, {}, {1}, {2, 1}, {16}} {
			is(t, text("WrapShape of", shape, "around", b), text(impl.WrapShape(shape, b.k, b.n)), nothing)
		}
	}
}

func TestQuantumProductOfFew(t *testing.T) {
	for _, c := range []struct {
		a, b string
		k, n int
		want string
	}{
		{"2 1", "1", 2, 4, "1:q0:2 2, 1:q1:"}, {"1", "1", 2, 4, "1:q0:1 1, 1:q0:2"}, {"2 1", "2 1", 2, 4, "1:q1:1 1, 1:q1:2"}, {"2 2", "2 2", 2, 4, "1:q2:"}, {"1 1", "2", 2, 4, "1:q1:"}, {"2", "2", 2, 4, "1:q0:2 2"}, {"2 2", "1", 2, 4, "1:q1:1"}, {"2 2", "2", 2, 4, "1:q1:1 1"}, {"2 2", "1 1", 2, 4, "1:q1:2"},
		{"", "", 1, 1, "1:q0:"}, {"", "", 7, 7, "1:q0:"}, {"1", "1", 1, 2, "1:q1:"}, {"3", "4", 1, 7, "1:q1:"}, {"6", "6", 1, 7, "1:q1:5"}, {"1 1 1 1 1 1", "1 1 1 1 1 1", 6, 7, "1:q1:1 1 1 1 1"}, {"2 2", "2 1", 2, 5, "1:q1:2"}, {"2 1", "2 1", 2, 5, "1:q0:3 3, 1:q1:1"},
		{"2 1", "2 1", 3, 6, "1:q0:2 2 2, 2:q0:3 2 1, 1:q0:3 3, 1:q1:"}, {"3 2 1", "3 2 1", 3, 6, "1:q1:2 2 2, 2:q1:3 2 1, 1:q1:3 3, 1:q2:"}, {"4 4 4", "4 4 4", 3, 7, "1:q3:1 1 1"}, {"3 3 3", "3 3 3", 3, 6, "1:q3:"},
	} {
		got, ok := impl.QuantumProduct(numbers(c.a), numbers(c.b), c.k, c.n)
		is(t, text("QuantumProduct of", c.a, "and", c.b, "in", c.k, c.n), text(impl.FormatQParts(got), ok), text(c.want, true))
	}
}

// TestQuantumProductByRims takes all shapes in all boxes. Some of the numbers add up
// to 0: those are left out.
func TestQuantumProductByRims(t *testing.T) {
	known, lost := schurFinder{}, 0
	for _, b := range quantumBoxesUpTo(7) {
		for _, x := range b.shapes() {
			for _, y := range b.shapes() {
				sum := b.quantumByRims(known, x, y)
				want := sum.parts()
				lost += len(sum) - len(want)
				is(t, text("QuantumProduct of", x, y, "in", b), text(b.quantum(t, x, y)), text(want))
			}
		}
	}
	isTrue(t, "some numbers add up to 0", lost > 100)
}

// TestQuantumProductIsARing takes three shapes, and adds up.
func TestQuantumProductIsARing(t *testing.T) {
	for _, b := range append(quantumBoxesUpTo(5), box{3, 6}) {
		for _, x := range b.shapes() {
			is(t, text("QuantumProduct of nothing and", x, "in", b), text(b.quantum(t, nil, x)), text([]impl.QPart{{Shape: x, Count: 1}}))
			for _, y := range b.shapes() {
				first := b.quantum(t, x, y)
				is(t, text("QuantumProduct of", x, y, "in", b, "exchanged"), text(b.quantum(t, y, x)), text(first))
				for _, z := range b.shapes() {
					is(t, text("QuantumProduct of", x, y, z, "in", b), text(b.quantumTimes(t, first, z)), text(b.quantumTimes(t, b.quantum(t, y, z), x)))
				}
			}
		}
	}
}

// TestQuantumProductBeginsWithPlain: what has the power 0 is the plain product. Cells
// add up, with n for each power; no number is below 0, and there is always one part.
func TestQuantumProductBeginsWithPlain(t *testing.T) {
	greatest := 0
	for _, b := range quantumBoxesUpTo(7) {
		for _, x := range b.shapes() {
			for _, y := range b.shapes() {
				what := text("QuantumProduct of", x, y, "in", b)
				got := b.quantum(t, x, y)
				var plain []impl.Part
				for _, part := range got {
					if part.Power == 0 {
						plain = append(plain, impl.Part{Shape: part.Shape, Count: part.Count})
					}
					isTrue(t, what+": the cells add up", total(part.Shape)+b.n*part.Power == total(x)+total(y))
					isTrue(t, what+" has a shape in the box, some times", impl.IsInBox(part.Shape, b.k, b.n) && part.Count > 0)
					greatest = max(greatest, part.Power)
				}
				is(t, what+" begins with the plain one", text(plain), text(b.plain(t, x, y)))
				isTrue(t, what+" is not 0", len(got) > 0)
				turned := quantumSum{}
				for _, part := range got {
					turned.add(part.Power, conjugate(part.Shape), part.Count)
				}
				if b.k < b.n {
					is(t, what+", rows and columns exchanged", text(box{b.n - b.k, b.n}.quantum(t, conjugate(x), conjugate(y))), text(turned.parts()))
				}
			}
		}
	}
	is(t, "the greatest power", text(greatest), "3")
}

// TestQuantumProductAtRoots holds it against the products of the values of the Schur
// polynomials at roots.
func TestQuantumProductAtRoots(t *testing.T) {
	for _, b := range append(quantumBoxesUpTo(6), box{3, 7}) {
		values := b.rootValues()
		for _, x := range b.shapes() {
			for _, y := range b.shapes() {
				got := map[string]int{}
				for _, part := range b.quantum(t, x, y) {
					got[text(part.Shape)] += part.Count
				}
				for _, z := range b.shapes() {
					is(t, text("QuantumProduct of", x, y, "in", b, "at", z), text(got[text(z)]), text(values.count(x, y, z)))
				}
			}
		}
	}
}

// TestWholeColumnTurnsString: a column of k cells turns the string by one place, and so
// does a row of n - k cells, in the other direction. What goes round is a power of q.
func TestWholeColumnTurnsString(t *testing.T) {
	for _, b := range quantumBoxesUpTo(7) {
		if b.k == b.n {
			continue
		}
		for _, shape := range b.shapes() {
			s := impl.StringOfShape(shape, b.k, b.n)
			turned, _, _ := impl.ShapeOfString(impl.RotateString(s))
			what := text("QuantumProduct of", shape, "in", b)
			is(t, what+" with a column", text(b.quantum(t, shape, repeated(1, b.k))), text([]impl.QPart{{Power: s[b.n-1], Shape: turned, Count: 1}}))
			back, _, _ := impl.ShapeOfString(append(slices.Clone(s[1:]), s[0]))
			want := text([]impl.QPart{{Power: 1 - s[0], Shape: back, Count: 1}})
			is(t, what+" with a row", text(b.quantum(t, shape, []int{b.n - b.k})), want)
			is(t, what+" with a row, by strips", text(impl.QuantumPieri(shape, b.k, b.n, b.n-b.k)), want+" true")
		}
	}
}

func TestQuantumPieriOfFew(t *testing.T) {
	for _, c := range []struct {
		shape   string
		k, n, p int
		want    string
	}{
		{"2 1", 2, 4, 1, "1:q0:2 2, 1:q1:"}, {"2 1", 2, 4, 0, "1:q0:2 1"}, {"2 1", 2, 4, 2, "1:q1:1"}, {"2 2", 2, 4, 1, "1:q1:1"}, {"2 2", 2, 4, 2, "1:q1:1 1"}, {"2", 2, 4, 2, "1:q0:2 2"}, {"1 1", 2, 4, 2, "1:q1:"}, {"1 1", 2, 4, 1, "1:q0:2 1"}, {"", 1, 1, 0, "1:q0:"}, {"", 7, 7, 0, "1:q0:"}, {"1", 1, 2, 1, "1:q1:"}, {"6", 1, 7, 6, "1:q1:5"}, {"", 1, 7, 6, "1:q0:6"},
		{"1 1 1 1 1 1", 6, 7, 1, "1:q1:"}, {"1 1 1 1 1", 6, 7, 1, "1:q0:1 1 1 1 1 1"}, {"4 2 1", 3, 7, 3, "1:q0:4 4 2, 1:q1:2 1, 1:q1:3"}, {"4 4 4", 3, 7, 1, "1:q1:3 3"}, {"4 4 4", 3, 7, 4, "1:q1:3 3 3"}, {"4 3 2", 3, 7, 2, "1:q0:4 4 3, 1:q1:2 1 1, 1:q1:2 2, 1:q1:3 1"},
	} {
		got, ok := impl.QuantumPieri(numbers(c.shape), c.k, c.n, c.p)
		is(t, text("QuantumPieri of", c.shape, "in", c.k, c.n, "with", c.p), text(impl.FormatQParts(got), ok), text(c.want, true))
	}
}

// quantumPieriByDefinition tries all shapes in the box.
func (b box) quantumPieriByDefinition(shape []int, p int) []impl.QPart {
	var l []impl.QPart
	for _, part := range b.pieriByDefinition(shape, p) {
		l = append(l, impl.QPart{Shape: part.Shape, Count: 1})
	}
	for _, c := range b.shapes() {
		fits := total(c) == total(shape)-(b.n-p)
		for i := range b.k {
			fits = fits && rowOf(c, i) < rowOf(shape, i) && (i == b.k-1 || rowOf(c, i) >= rowOf(shape, i+1)-1)
		}
		if fits {
			l = append(l, impl.QPart{Power: 1, Shape: c, Count: 1})
		}
	}
	return l
}

// TestQuantumPieri holds it against its definition, and against the product with a row.
func TestQuantumPieri(t *testing.T) {
	for _, b := range quantumBoxesUpTo(7) {
		for _, shape := range b.shapes() {
			for p := range b.n - b.k + 1 {
				what := text("QuantumPieri of", shape, "in", b, "with", p)
				got, ok := impl.QuantumPieri(shape, b.k, b.n, p)
				is(t, what, text(got, ok), text(b.quantumPieriByDefinition(shape, p), true))
				is(t, what+", as a product", text(got), text(b.quantum(t, shape, trimmedRows([]int{p}))))
			}
		}
	}
}

// TestQuantumProductsOfNoRows: in a box of no rows there is the plain product alone.
func TestQuantumProductsOfNoRows(t *testing.T) {
	for n := 1; n <= 7; n++ {
		is(t, text("QuantumProduct in 0 and", n), text(impl.QuantumProduct(nil, nil, 0, n)), "[] false")
		is(t, text("GrProduct in 0 and", n), text(impl.GrProduct(nil, nil, 0, n)), "[{[] 1}] true")
		for p := range n + 1 {
			is(t, text("QuantumPieri in 0 and", n, "with", p), text(impl.QuantumPieri(nil, 0, n, p)), "[] false")
			is(t, text("PieriShapes in 0 and", n, "with", p), text(impl.PieriShapes(nil, 0, n, p)), text(box{0, n}.pieriByDefinition(nil, p), true))
		}
		for d := range 3 {
			is(t, text("GromovWitten in 0 and", n, "with", d), text(impl.GromovWitten(nil, nil, nil, 0, n, d)), "-1")
		}
	}
}

func TestGromovWittenOfFew(t *testing.T) {
	for _, c := range []struct {
		a, b, c string
		k, n, d int
		want    int
	}{
		{"2 1", "1", "2 2", 2, 4, 1, 1}, {"2 1", "1", "", 2, 4, 0, 1}, {"2 1", "1", "", 2, 4, 1, 0}, {"2 2", "2 2", "2 2", 2, 4, 2, 1}, {"2 2", "2 2", "2 2", 2, 4, 1, 0}, {"1", "1", "1 1", 2, 4, 0, 1}, {"1", "1", "1", 2, 4, 0, 0}, {"1", "1", "1 1", 2, 4, -1, 0}, {"1", "1", "1 1", 2, 4, math.MinInt, 0}, {"1", "1", "1 1", 2, 4, math.MaxInt, 0},
		{"", "", "", 1, 1, 0, 1}, {"", "", "", 7, 7, 0, 1}, {"", "", "", 7, 7, 1, 0}, {"6", "6", "1", 1, 7, 1, 1}, {"6", "6", "6", 1, 7, 1, 0}, {"3 2 1", "3 2 1", "2 1", 3, 6, 1, 2}, {"3 3 3", "3 3 3", "3 3 3", 3, 6, 3, 1}, {"3 2 1", "3 2 1", "3 2 1", 3, 6, 0, 0}, {"2 1", "2 1", "2 1", 3, 6, 0, 2}, {"3 2 1", "3 2 1", "3 3 3", 3, 6, 2, 1},
	} {
		is(t, text("GromovWitten of", c.a, "and", c.b, "and", c.c, "in", c.k, c.n, "with", c.d), text(impl.GromovWitten(numbers(c.a), numbers(c.b), numbers(c.c), c.k, c.n, c.d)), text(c.want))
	}
}

// TestGromovWitten takes all d, and all three shapes in all orders. With d = 0, it is
// the number of intersections.
func TestGromovWitten(t *testing.T) {
	for _, b := range append(quantumBoxesUpTo(5), box{3, 6}) {
		for _, x := range b.shapes() {
			for _, y := range b.shapes() {
				counts := map[string]int{}
				for _, part := range b.quantum(t, x, y) {
					counts[text(part.Power, b.dual(part.Shape))] = part.Count
				}
				for _, z := range b.shapes() {
					what := text("GromovWitten of", x, y, z, "in", b)
					for d := -1; d < 5; d++ {
						got := impl.GromovWitten(x, y, z, b.k, b.n, d)
						is(t, text(what, "with", d), text(got), text(counts[text(d, z)]))
						is(t, text(what, "with", d, "exchanged"), text(impl.GromovWitten(z, x, y, b.k, b.n, d), impl.GromovWitten(x, z, y, b.k, b.n, d)), text(got, got))
						isTrue(t, text(what, "with", d, "has the cells"), got == 0 || total(x)+total(y)+total(z) == b.k*(b.n-b.k)+b.n*d)
					}
					is(t, what+" with 0", text(impl.GromovWitten(x, y, z, b.k, b.n, 0)), text(impl.IntersectionNumber([][]int{x, y, z}, b.k, b.n)))
				}
			}
		}
	}
}

func TestRotateString(t *testing.T) {
	for s, want := range map[string]string{"100": "010", "001": "100", "0": "0", "1": "1", "01": "10", "10": "01", "0110010": "0011001", "1111111": "1111111", "0000001": "1000000", "1000000": "0100000"} {
		is(t, "RotateString of "+s, text(impl.RotateString(digits(s))), text(digits(want)))
	}
	for n := 1; n <= 7; n++ {
		for _, s := range wordsOf(2, n) {
			turned := s
			for i := range n {
				is(t, text("RotateString of", s, i, "times, its first"), text(turned[0]), text(s[(n-i)%n]))
				turned = impl.RotateString(turned)
			}
			is(t, text("RotateString of", s, "all round"), text(turned), text(s))
		}
	}
	for _, s := range notStrings() {
		is(t, brief("RotateString of", s), text(impl.RotateString(s)), "[]")
	}
}

// TestFormatQParts takes any parts: there are no conditions for them.
func TestFormatQParts(t *testing.T) {
	is(t, "FormatQParts of nil", impl.FormatQParts(nil), "0")
	is(t, "FormatQParts of the empty list", impl.FormatQParts([]impl.QPart{}), "0")
	for _, s := range []string{"1:q0:", "1:q1:", "-1:q0:1", "1:q0:2 2, 1:q1:", "12:q3:4 2 1, -7:q0:, 0:q-5:0 -1", "0:q0:", "0:q0:, 0:q0:", "1:q1:17 18 0"} {
		is(t, "FormatQParts of "+s, impl.FormatQParts(qparts(s)), s)
	}
	last := impl.QPart{Power: math.MaxInt, Shape: []int{math.MinInt}, Count: math.MinInt}
	is(t, "FormatQParts of the greatest and the least", impl.FormatQParts([]impl.QPart{last}), "-9223372036854775808:q9223372036854775807:-9223372036854775808")
}
