package tests

import (
	"math"
	"math/rand/v2"
	"slices"
	"testing"

	"loop.example/g03113/impl"
)

func TestIsGkmOfFew(t *testing.T) {
	for _, c := range []struct {
		n         int
		values, y string
		want      bool
	}{
		{1, "7", "9", true}, {1, "0", "-9", true}, {1, "7", "10", false}, {1, "", "9", false}, {1, "7 7", "9", false}, {1, "7", "", false}, {2, "1 4", "2 5", true}, {2, "1 3", "2 5", false}, {2, "4 1", "2 5", true}, {2, "1 -2", "2 5", true}, {2, "1 4", "5 2", true}, {2, "1 1", "2 5", true}, {2, "1 8", "2 3", true},
		{2, "1 1", "2 2", false}, {2, "1", "2 5", false}, {2, "1 4 7", "2 5", false}, {2, "1 4", "2 5 8", false}, {2, "1 4", "2", false}, {1, "1 4", "2 5", false}, {3, "1 4", "2 5", false}, {0, "", "", false}, {0, "1", "", false}, {-1, "", "", false}, {2, "", "2 5", false}, {2, "", "", false},
		{3, "0 0 0 0 0 4", "0 2 4", true}, {3, "0 0 0 0 0 2", "0 2 4", false}, {3, "0 0 0 0 0 16", "0 2 4", true}, {3, "4 0 0 0 0 0", "0 2 4", true}, {3, "0 2 0 4 2 4", "0 2 4", true}, {3, "0 2 0 4 6 4", "0 2 4", true}, {3, "0 2 0 4 4 4", "0 2 4", false}, {3, "0 2 0 4 3 4", "0 2 4", false},
		// the last one differs from the first one by a multiple of 4, from no other by one of 2
		{3, "0 1 1 0 0 4", "0 2 4", false}, {3, "0 0 0 0 0 0", "0 2 2", false}, {3, "0 0 0 0 0 0", "2 0 2", false}, {3, "0 0 0 0 0 0", "2 2 0", false}, {3, "0 0 0 0 0 0", "-9 0 9", true}, {3, "0 0 0 0 0 0", "-10 0 9", false}, {3, "0 0 0 0 0 0", "-9 0 10", false},
	} {
		is(t, text("IsGkm of", c.n, c.values, "with", c.y), text(impl.IsGkm(c.n, numbers(c.values), numbers(c.y))), text(c.want))
	}
}

// TestValuesDifferByMultiples: those of each permutation do, and sums and products of
// such.
func TestValuesDifferByMultiples(t *testing.T) {
	for n := 1; n <= 4; n++ {
		for _, y := range differentShifts(n) {
			known := tables(t, y)
			for _, v := range permsOf(n) {
				isTrue(t, text("IsGkm of the values of", v, "with", y), impl.IsGkm(n, known[text(v)], y))
				for _, u := range permsOf(n) {
					product := pointwise(known[text(u)], known[text(v)])
					isTrue(t, text("IsGkm of the product of", u, v, "with", y), impl.IsGkm(n, product, y))
					for i, value := range known[text(u)] {
						product[i] += 7 * value
					}
					isTrue(t, text("IsGkm of the product, and 7 times the first, of", u, v, "with", y), impl.IsGkm(n, product, y))
				}
			}
		}
	}
}

// TestIsGkmAndExpandLocal holds both against the definition, and against divided
// differences of values.
func TestIsGkmAndExpandLocal(t *testing.T) {
	met := map[string]int{}
	source := rand.New(rand.NewPCG(8, 13))
	for n := 1; n <= 4; n++ {
		for _, y := range differentShifts(n) {
			finder := newLocalFinder(y)
			for _, values := range someLocalValues(t, source, y) {
				isGkm := finder.isGkm(values)
				is(t, text("IsGkm of", values, "with", y), text(impl.IsGkm(n, values, y)), text(isGkm))
				want, ok := finder.expand(values)
				isTrue(t, text("what is a sum differs by multiples:", values, "with", y), isGkm || !ok)
				is(t, text("ExpandLocal of", values, "with", y), text(impl.ExpandLocal(n, values, y)), text(want, ok))
				met[text(isGkm, ok)]++
			}
		}
	}
	for kind, least := range map[string]int{"true true": 1000, "true false": 100, "false false": 1000} {
		isTrue(t, text("values of the kind", kind, "are met:", met[kind]), met[kind] >= least)
	}
}

// TestValuesAreExpandedAgain: each permutation's values are found as itself, and a sum
// of classes as itself.
func TestValuesAreExpandedAgain(t *testing.T) {
	source := rand.New(rand.NewPCG(21, 34))
	for n := 1; n <= 4; n++ {
		for _, y := range differentShifts(n) {
			known := tables(t, y)
			for _, v := range permsOf(n) {
				is(t, text("ExpandLocal of LocalTable of", v, "with", y), text(impl.ExpandLocal(n, known[text(v)], y)), text([]impl.Class{{Perm: trimmed(v), Count: 1}}, true))
			}
			for range 20 {
				l := randomClasses(source, n, 50000)
				is(t, text("ExpandLocal of the values of", l, "with", y), text(impl.ExpandLocal(n, valuesOf(l, known, n), y)), text(l, true))
			}
		}
	}
}

func TestExpandLocalOfFew(t *testing.T) {
	for _, c := range []struct {
		values, y, want string
	}{
		{"5", "9", "5:1"}, {"-5", "0", "-5:1"}, {"0", "3", "0"}, {"0 0", "2 5", "0"}, {"1 7", "2 5", "1:1, 2:21"}, {"7 1", "2 5", "7:1, -2:21"}, {"0 3", "5 2", "-1:21"}, {"4 4", "2 5", "4:1"}, {"1 6", "2 5", ""}, {"0 1", "2 5", ""}, {"0 1", "2 3", "1:21"},
		{"0 0 0 0 0 16", "0 2 4", "1:321"}, {"0 0 0 0 0 4", "0 2 4", ""}, {"0 0 0 0 0 8", "0 2 4", ""}, {"0 0 0 0 0 -32", "0 2 4", "-2:321"}, {"4 0 0 0 0 0", "0 2 4", ""}, {"1 3 1 5 3 5", "0 2 4", "1:1, 1:132"}, {"1 3 1 5 5 5", "0 2 4", ""}, {"6 6 6 6 6 6", "0 2 4", "6:1"}, {"0 0 0 0 0 0", "-9 0 9", "0"}, {"0 2 0 4 2 4", "0 2 4", "1:132"}, {"0 2 0 4 6 4", "0 2 4", ""},
		{"3 3 5 5 3 5", "0 2 4", ""}, {"0 0 2 2 4 4", "0 2 4", "1:21"}, {"0 4 4 16 16 24", "0 2 4", ""}, {"0 4 4 20 20 16", "0 2 4", "2:132, 2:21, 1:231, 1:312, -1:321"},
	} {
		want := "[] false"
		if c.want != "" {
			want = text(sumOrNone(c.want), true)
		}
		y := numbers(c.y)
		is(t, text("ExpandLocal of", c.values, "with", c.y), text(impl.ExpandLocal(len(y), numbers(c.values), y)), want)
	}
}

// TestExpandLocalIsInOrder takes all permutations at once: those that are trimmed stand
// in the order of lists.
func TestExpandLocalIsInOrder(t *testing.T) {
	for n := 1; n <= 4; n++ {
		var l []impl.Class
		for i, w := range trimmedPerms(n) {
			l = append(l, impl.Class{Perm: w, Count: i + 1})
		}
		y := []int{6, 0, 4, 2}[:n]
		got, ok := impl.ExpandLocal(n, valuesOf(l, tables(t, y), n), y)
		is(t, text("ExpandLocal of all of", n), text(got, ok), text(l, true))
		isTrue(t, text("ExpandLocal of all of", n, "is a sum of classes"), impl.ClassesOk(got))
	}
}

// TestGreatestLocalValues has values of 10^12, and just beyond it.
func TestGreatestLocalValues(t *testing.T) {
	const most = 1000000000000
	for n := 1; n <= 4; n++ {
		y := ascending(n)
		count := len(permsOf(n))
		for value, want := range map[int]bool{most: true, -most: true, most + 1: false, -most - 1: false, 1 << 50: false, math.MaxInt: false, math.MinInt: false, math.MinInt + 1: false} {
			all := repeated(value, count)
			is(t, text("IsGkm of values", value, n), text(impl.IsGkm(n, all, y)), text(want))
			is(t, text("ExpandLocal of values", value, n), text(impl.ExpandLocal(n, all, y)), "[] false")
		}
		// multiples of 6, as the differences of y divide it
		for value, want := range map[int]bool{most - 4: true, 4 - most: true, most + 2: false, -most - 2: false, 6 << 50: false, -6 << 50: false, math.MaxInt - 1: false, math.MinInt + 2: false} {
			for place := range count {
				values := make([]int, count)
				values[place] = value
				is(t, text("IsGkm of one value", values), text(impl.IsGkm(n, values, y)), text(want))
			}
		}
	}
	for _, c := range []struct{ value, want int }{{most, 976562500}, {-most, -976562500}, {most + 1024, 0}, {-most - 1024, 0}, {most - 1024, 976562499}} {
		values := []int{0, 0, 0, 0, 0, c.value}
		want := "[] false"
		if c.want != 0 {
			want = text([]impl.Class{{Perm: []int{2, 1, 0}, Count: c.want}}, true)
		}
		is(t, text("IsGkm of", values), text(impl.IsGkm(3, values, []int{-8, 0, 8})), text(c.want != 0))
		is(t, text("ExpandLocal of", values), text(impl.ExpandLocal(3, values, []int{-8, 0, 8})), want)
	}
}

// TestGreatestMultiples has integers of 10^9, and just beyond it, at each permutation.
func TestGreatestMultiples(t *testing.T) {
	const most = 1000000000
	for n := 1; n <= 4; n++ {
		y := ascending(n)
		known := tables(t, y)
		for _, v := range permsOf(n) {
			for _, count := range []int{most, -most, most + 1, -most - 1, 2 * most, -2 * most} {
				l := []impl.Class{{Perm: trimmed(v), Count: count}}
				want := "[] false"
				if count == most || count == -most {
					want = text(l, true)
				}
				values := valuesOf(l, known, n)
				isTrue(t, text("IsGkm of", l), impl.IsGkm(n, values, y))
				is(t, text("ExpandLocal of", l), text(impl.ExpandLocal(n, values, y)), want)
			}
		}
	}
	l := []impl.Class{{Perm: []int{0}, Count: most}, {Perm: []int{0, 2, 1}, Count: -most}, {Perm: []int{1, 0}, Count: most}, {Perm: []int{2, 1, 0}, Count: most}}
	is(t, text("ExpandLocal of", l), text(impl.ExpandLocal(3, valuesOf(l, tables(t, ascending(3)), 3), ascending(3))), text(l, true))
}

// TestExpandLocalHasNoLimitsOnTheWay: values of 10^12 at most may be sums of greater
// ones.
func TestExpandLocalHasNoLimitsOnTheWay(t *testing.T) {
	const most = 1000000000000
	y := numbers("-9 -4 4 9")
	known := tables(t, y)
	var l []impl.Class
	for _, s := range []string{"3421", "4231", "4312"} {
		l = append(l, impl.Class{Perm: perm(s), Count: most / valueOver(perm(s), y)})
	}
	last := valuesOf(l, known, 4)[23]
	isTrue(t, text("a value on the way is great:", last), last > 2*most)
	l = append(l, impl.Class{Perm: perm("4321"), Count: -last / valueOver(perm("4321"), y)})
	values := valuesOf(l, known, 4)
	isTrue(t, text("the values are within the limits:", values), slices.Max(values) <= most && slices.Min(values) >= -most)
	is(t, text("ExpandLocal of the values of", l), text(impl.ExpandLocal(4, values, y)), text(l, true))
}

func TestIsGkmAndExpandLocalOutside(t *testing.T) {
	for n := 1; n <= 4; n++ {
		count := len(permsOf(n))
		for _, y := range notDifferentShifts(n) {
			for _, values := range [][]int{make([]int, count), repeated(1, count), nil} {
				isFalse(t, brief("IsGkm of", n, values, "with", y), impl.IsGkm(n, values, y))
				is(t, brief("ExpandLocal of", n, values, "with", y), text(impl.ExpandLocal(n, values, y)), "[] false")
			}
		}
		for length := range 130 {
			for _, value := range []int{0, 1} {
				values := repeated(value, length)
				is(t, text("IsGkm of", n, "and so many values:", length), text(impl.IsGkm(n, values, ascending(n))), text(length == count))
				_, ok := impl.ExpandLocal(n, values, ascending(n))
				is(t, text("ExpandLocal of", n, "and so many values:", length), text(ok), text(length == count))
			}
		}
	}
	for _, n := range sizesBeyond() {
		for _, length := range []int{0, 1, 2, 6, 24, 120, 720, 5040, 100000} {
			for places := range 8 {
				isFalse(t, text("IsGkm of", n, length, places), impl.IsGkm(n, make([]int, length), ascending(places)))
				is(t, text("ExpandLocal of", n, length, places), text(impl.ExpandLocal(n, make([]int, length), ascending(places))), "[] false")
			}
		}
	}
}
