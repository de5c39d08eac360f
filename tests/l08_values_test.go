package tests

import (
	"slices"
	"testing"

	"loop.example/g03113/impl"
)

func TestAllPerms(t *testing.T) {
	is(t, "MaxLocal", text(impl.MaxLocal), "4")
	is(t, "AllPerms of 3", text(impl.AllPerms(3)), "[[0 1 2] [0 2 1] [1 0 2] [1 2 0] [2 0 1] [2 1 0]]")
	for n := 1; n <= 5; n++ {
		is(t, text("AllPerms of", n), text(impl.AllPerms(n)), text(permsOf(n)))
	}
	for _, n := range append(sizesOutside(), 0, 6, 7, 8) {
		is(t, text("AllPerms of", n), text(impl.AllPerms(n)), "[]")
	}
}

func TestLocalizeOfFew(t *testing.T) {
	for _, c := range []struct {
		v, w, y string
		want    int
	}{
		{"1", "1", "9", 1}, {"12", "12", "2 5", 1}, {"12", "21", "2 5", 1}, {"21", "12", "2 5", 0}, {"21", "21", "2 5", 3}, {"21", "21", "5 2", -3}, {"21", "21", "-9 9", 18}, {"21", "21", "4 4", 0}, {"12", "21", "4 4", 1}, {"12", "12", "0 0", 1},
		// what is not chosen moves the numbers: 6 - 1 in the second one, though 6 - 4 is there at first
		{"132", "132", "1 4 6", 2}, {"132", "231", "1 4 6", 5}, {"132", "312", "1 4 6", 2}, {"132", "321", "1 4 6", 5}, {"132", "213", "1 4 6", 0}, {"213", "132", "1 4 6", 0}, {"213", "213", "1 4 6", 3}, {"213", "231", "1 4 6", 3}, {"213", "312", "1 4 6", 5}, {"213", "321", "1 4 6", 5},
		{"231", "231", "1 4 6", 15}, {"231", "312", "1 4 6", 0}, {"312", "312", "1 4 6", 10}, {"312", "231", "1 4 6", 0}, {"231", "321", "1 4 6", 15}, {"312", "321", "1 4 6", 10}, {"321", "321", "1 4 6", 30}, {"321", "312", "1 4 6", 0}, {"123", "321", "1 4 6", 1}, {"321", "321", "4 4 6", 0}, {"321", "321", "6 4 1", -30},
		{"4321", "4321", "-9 -4 4 9", 608400}, {"4321", "4321", "9 4 -4 -9", 608400}, {"54321", "54321", "-9 -5 0 5 9", 1143072000}, {"54321", "54321", "9 5 0 -5 -9", 1143072000}, {"54321", "54321", "-9 -9 9 9 9", 0}, {"45123", "45321", "-9 -9 -9 9 9", 34012224}, {"12345", "54321", "0 0 0 0 0", 1}, {"21345", "54321", "0 0 0 0 0", 0},
	} {
		is(t, text("Localize of", c.v, "at", c.w, "with", c.y), text(impl.Localize(perm(c.v), perm(c.w), numbers(c.y))), text(c.want, true))
	}
}

// pointOf is what stands in place of the variables at w.
func pointOf(w []int, y []int) []int {
	x := make([]int, 7)
	for i, number := range w {
		x[i] = y[number]
	}
	return x
}

// TestLocalizeIsDoubleSchubert takes DoubleSchubert where it has a polynomial, and the
// sum over dreams (which knows no limits) in any case.
func TestLocalizeIsDoubleSchubert(t *testing.T) {
	beyond := 0
	for n := 1; n <= 5; n++ {
		dreams := reducedDreams(n)
		for _, v := range permsOf(n) {
			for _, y := range append(weightShifts(n), numbers("-9 -5 0 5 9")[:n]) {
				f, isPoly := impl.DoubleSchubert(v, y)
				if !isPoly {
					beyond++
				}
				for _, w := range permsOf(n) {
					got, ok := impl.Localize(v, w, y)
					if want := valueByDreams(dreams[text(v)], w, y); !ok || got != want {
						t.Errorf("Localize of %v at %v with %v: %v %v, want %v", v, w, y, got, ok, want)
					}
					if isPoly && got != valueAt(f, pointOf(w, y)) {
						t.Errorf("Localize of %v at %v with %v: %v, but DoubleSchubert has %v there", v, w, y, got, valueAt(f, pointOf(w, y)))
					}
				}
			}
		}
	}
	isTrue(t, text("there are polynomials beyond the limits:", beyond), beyond > 20)
}

// TestLocalizeByWords tries all choices of places: each reduced word gives the same.
func TestLocalizeByWords(t *testing.T) {
	for n := 1; n <= 5; n++ {
		for _, w := range permsOf(n) {
			words, _ := impl.ReducedWords(w)
			for i, word := range words {
				if n == 5 && i > 0 && i < len(words)-1 && i%97 > 0 {
					continue
				}
				y := weightShifts(n)[8+i%5]
				values := valuesByWord(n, word, y)
				for _, v := range permsOf(n) {
					got, ok := impl.Localize(v, w, y)
					if want := values[text(v)]; !ok || got != want {
						t.Errorf("Localize of %v at %v with %v: %v %v, by the word %v: %v", v, w, y, got, ok, word, want)
					}
				}
			}
		}
	}
}

// TestLocalizeAboveAlone: a permutation has no values but at permutations above it, at
// itself the product over its inversions, and no values below 0 for numbers that ascend.
func TestLocalizeAboveAlone(t *testing.T) {
	met := map[string]int{}
	for n := 1; n <= 5; n++ {
		for _, y := range append(weightShifts(n), numbers("-9 -5 0 5 9")[:n], numbers("-9 -9 0 0 9")[:n]) {
			for _, v := range permsOf(n) {
				own, _ := impl.Localize(v, v, y)
				is(t, text("Localize of", v, "at itself with", y), text(own), text(valueOver(v, y)))
				for _, w := range permsOf(n) {
					value, _ := impl.Localize(v, w, y)
					below := isBelow(v, w)
					if !below && value != 0 || isAscending(y) && value < 0 || isAscending(y) && areDifferent(y) && (value > 0) != below {
						t.Errorf("Localize of %v at %v with %v: %v", v, w, y, value)
					}
					met[text(below, isAscending(y), areDifferent(y))]++
				}
			}
		}
	}
	is(t, "there are cases of all kinds", text(len(met)), "8")
}

// TestLocalizeByOtherFunctions: places at the end at which all stays change nothing;
// nor does a number that is added to all of y; the identity has the value 1.
func TestLocalizeByOtherFunctions(t *testing.T) {
	y := numbers("3 -2 4 8 -7")
	for n := 1; n <= 4; n++ {
		for _, v := range permsOf(n) {
			for _, w := range permsOf(n) {
				want := text(impl.Localize(v, w, y[:n]))
				is(t, text("Localize of", v, "at", w, "within one more"), text(impl.Localize(append(slices.Clone(v), n), append(slices.Clone(w), n), y[:n+1])), want)
				moved := slices.Clone(y[:n])
				for i := range moved {
					moved[i]++
				}
				is(t, text("Localize of", v, "at", w, "with", moved), text(impl.Localize(v, w, moved)), want)
			}
		}
	}
	for _, w := range permsUpTo(5) {
		is(t, text("Localize of the identity at", w), text(impl.Localize(ascending(len(w)), w, y[:len(w)])), "1 true")
	}
}

func TestLocalTable(t *testing.T) {
	is(t, "LocalTable of 132", text(impl.LocalTable(perm("132"), []int{1, 4, 6})), "[0 2 0 5 2 5] true")
	is(t, "LocalTable of 12 with equal numbers", text(impl.LocalTable(perm("12"), []int{4, 4})), "[1 1] true")
	for n := 1; n <= 4; n++ {
		for _, y := range append(weightShifts(n), repeated(0, n), repeated(-9, n), repeated(9, n)) {
			for _, v := range permsOf(n) {
				var want []int
				for _, w := range permsOf(n) {
					value, ok := impl.Localize(v, w, y)
					isTrue(t, text("Localize of", v, "at", w, "with", y), ok)
					want = append(want, value)
				}
				is(t, text("LocalTable of", v, "with", y), text(impl.LocalTable(v, y)), text(want, true))
			}
		}
	}
}

// TestLocalTableIsSymmetric: the value of v at w is, with the sign of its length, that
// of the inverse of v at the inverse of w, with the numbers of y moved by w.
func TestLocalTableIsSymmetric(t *testing.T) {
	for n := 1; n <= 5; n++ {
		for _, y := range weightShifts(n)[8:] {
			for _, v := range permsOf(n) {
				for _, w := range permsOf(n) {
					value, _ := impl.Localize(v, w, y)
					other, _ := impl.Localize(impl.InversePerm(v), impl.InversePerm(w), productOf(y, w))
					if inversionsOf(v)%2 == 1 {
						other = -other
					}
					if value != other {
						t.Errorf("Localize of %v at %v with %v: %v, of the inverse: %v", v, w, y, value, other)
					}
				}
			}
		}
	}
}

func TestLocalizeOfNoPermutation(t *testing.T) {
	for _, l := range notPerms() {
		for n := 1; n <= 5; n++ {
			y := ascending(n)
			for _, w := range [][]int{ascending(n), impl.LongestPerm(n)} {
				is(t, brief("Localize of", l, "at", w), text(impl.Localize(l, w, y)), "0 false")
				is(t, brief("Localize of", w, "at", l), text(impl.Localize(w, l, y)), "0 false")
			}
			is(t, brief("Localize of", l, "at itself"), text(impl.Localize(l, l, y)), "0 false")
			is(t, brief("LocalTable of", l), text(impl.LocalTable(l, y)), "[] false")
		}
		if len(l) < 20 {
			is(t, brief("Localize, with as many numbers, of", l), text(impl.Localize(l, l, make([]int, len(l)))), "0 false")
			is(t, brief("LocalTable, with as many numbers, of", l), text(impl.LocalTable(l, make([]int, len(l)))), "[] false")
		}
	}
}

func TestLocalizeOfOtherSizes(t *testing.T) {
	for n := 1; n <= 7; n++ {
		for m := 1; m <= 7; m++ {
			for _, v := range [][]int{ascending(n), impl.LongestPerm(n)} {
				for _, w := range [][]int{ascending(m), impl.LongestPerm(m)} {
					for length := range 8 {
						_, ok := impl.Localize(v, w, make([]int, length))
						is(t, text("Localize of", v, "at", w, "succeeds with", length, "numbers"), text(ok), text(n == m && n <= 5 && length == n))
					}
				}
			}
		}
		for length := range 8 {
			l, ok := impl.LocalTable(ascending(n), make([]int, length))
			is(t, text("LocalTable of", n, "succeeds with", length, "numbers"), text(ok), text(n <= 4 && length == n))
			isTrue(t, text("LocalTable of", n, "with", length, "numbers has values"), (len(l) > 0) == ok)
		}
	}
	for _, w := range permsOf(5) {
		is(t, text("LocalTable of", w), text(impl.LocalTable(w, ascending(5))), "[] false")
	}
}

func TestLocalizeWithOtherNumbers(t *testing.T) {
	for n := 1; n <= 5; n++ {
		for _, v := range [][]int{ascending(n), impl.LongestPerm(n)} {
			for _, y := range notShifts(n) {
				is(t, brief("Localize of", v, "with", y), text(impl.Localize(v, v, y)), "0 false")
				is(t, brief("LocalTable of", v, "with", y), text(impl.LocalTable(v, y)), "[] false")
			}
			for i := range n {
				for _, shift := range []int{9, -9} {
					y := make([]int, n)
					y[i] = shift
					is(t, text("Localize of", v, "with", y), text(impl.Localize(v, v, y)), text(valueOver(v, y), true))
					_, ok := impl.LocalTable(v, y)
					is(t, text("LocalTable of", v, "with", y, "succeeds"), text(ok), text(n <= 4))
				}
			}
		}
	}
}
