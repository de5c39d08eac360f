package tests

import (
	"math"
	"math/big"
	"math/rand/v2"
	"slices"
	"testing"

	"loop.example/g03113/impl"
)

// differentShifts returns lists of n numbers from -9 to 9 that are all different; the
// first ones ascend.
func differentShifts(n int) [][]int {
	var all [][]int
	for _, s := range []string{"0 1 2 3", "-9 -4 4 9", "-8 0 4 8", "-3 0 1 7", "9 -9 8 -8", "2 5 1 0", "3 -2 4 8", "-1 -2 -3 -4", "6 0 4 2", "-9 9 0 3", "9 3 0 -9"} {
		all = append(all, numbers(s)[:n])
	}
	return all
}

// notDifferentShifts returns lists of which none has n numbers from -9 to 9 that are
// all different.
func notDifferentShifts(n int) [][]int {
	all := notShifts(n)
	for j := range n {
		for i := range j {
			y := ascending(n)
			y[j] = y[i]
			all = append(all, y)
		}
	}
	if n > 1 {
		all = append(all, repeated(0, n), repeated(9, n), repeated(-9, n))
	}
	return all
}

// notShifts returns lists of which none has n numbers from -9 to 9.
func notShifts(n int) [][]int {
	all := [][]int{nil, {}, ascending(n - 1), ascending(n + 1), make([]int, n+1), make([]int, 7), make([]int, 1000)}
	for i := range n {
		for _, far := range []int{10, -10, 11, 1 << 32, -1 << 32, math.MaxInt, math.MinInt} {
			y := ascending(n)
			y[i] = far
			all = append(all, y)
		}
	}
	return slices.DeleteFunc(all, func(y []int) bool { return len(y) == n && slices.Max(y) <= 9 && slices.Min(y) >= -9 })
}

// sizesBeyond returns what is no size of sums and products of values.
func sizesBeyond() []int { return append(sizesOutside(), 0, 5, 6, 7, 8) }

func isAscending(y []int) bool {
	for i := range len(y) - 1 {
		if y[i] > y[i+1] {
			return false
		}
	}
	return true
}

func areDifferent(y []int) bool {
	for i := range y {
		if slices.Contains(y[:i], y[i]) {
			return false
		}
	}
	return true
}

// isBelow is the definition of the order.
func isBelow(u []int, v []int) bool {
	for r := range len(u) + 1 {
		for c := range len(u) + 1 {
			if rankOf(u, r, c) < rankOf(v, r, c) {
				return false
			}
		}
	}
	return true
}

// valueByDreams is the value at w of the double Schubert polynomial that is the sum
// over these dreams.
func valueByDreams(dreams [][]impl.Cell, w []int, y []int) int {
	sum := 0
	for _, dream := range dreams {
		product := 1
		for _, c := range dream {
			product *= y[w[c.Row]] - y[c.Col]
		}
		sum += product
	}
	return sum
}

// valuesByWord goes through all choices of places of a word, and returns the sums of
// the products, by the texts of the permutations.
func valuesByWord(n int, word []int, y []int) map[string]int {
	values := map[string]int{}
	for choice := range 1 << len(word) {
		product := 1
		var chosen []int
		u := ascending(n)
		for place, k := range word {
			if choice>>place&1 == 1 {
				product *= y[u[k+1]] - y[u[k]]
				chosen = append(chosen, k)
			}
			u = exchanged(u, k, k+1)
		}
		if v := productOfWord(n, chosen, false); inversionsOf(v) == len(chosen) {
			values[text(v)] += product
		}
	}
	return values
}

// valueOver is the product of y[w[i]] - y[w[j]] over the inversions of w.
func valueOver(w []int, y []int) int { return inversionProduct(w, y)[[7]int{}] }

func table(t *testing.T, v []int, y []int) []int {
	t.Helper()
	values, ok := impl.LocalTable(v, y)
	isTrue(t, text("LocalTable of", v, y, "succeeds"), ok)
	return values
}

// tables returns the values of all permutations of as many places as y has.
func tables(t *testing.T, y []int) map[string][]int {
	t.Helper()
	all := map[string][]int{}
	for _, v := range permsOf(len(y)) {
		all[text(v)] = table(t, v, y)
	}
	return all
}

// valuesOf returns the values of a sum of classes at the permutations of n.
func valuesOf(l []impl.Class, known map[string][]int, n int) []int {
	values := make([]int, len(permsOf(n)))
	for _, class := range l {
		for i, value := range known[text(embedded(class.Perm, n))] {
			values[i] += class.Count * value
		}
	}
	return values
}

func embedded(w []int, n int) []int { return append(slices.Clone(w), ascending(n)[len(w):]...) }

func pointwise(a []int, b []int) []int {
	l := make([]int, len(a))
	for i := range l {
		l[i] = a[i] * b[i]
	}
	return l
}

// localFinder asks what values are, for the permutations of as many places as y has,
// in ascending order; the numbers of y are all different.
type localFinder struct {
	y     []int
	perms [][]int
	// places has, by the text of each permutation, where it stands.
	places map[string]int
}

func newLocalFinder(y []int) localFinder {
	f := localFinder{y: y, perms: permsOf(len(y)), places: map[string]int{}}
	for place, w := range f.perms {
		f.places[text(w)] = place
	}
	return f
}

// other is the place of the permutation with the numbers at i and j exchanged.
func (f localFinder) other(w []int, i int, j int) int { return f.places[text(exchanged(w, i, j))] }

// isGkm is the definition of IsGkm.
func (f localFinder) isGkm(values []int) bool {
	for place, w := range f.perms {
		for i := range w {
			for j := i + 1; j < len(w); j++ {
				if (values[place]-values[f.other(w, i, j)])%(f.y[w[i]]-f.y[w[j]]) != 0 {
					return false
				}
			}
		}
	}
	return true
}

// difference returns the divided difference at k of values, with fractions: at w, the
// value less that with the numbers at k and k + 1 exchanged, divided by the difference
// of the numbers of y there.
func (f localFinder) difference(k int, values []*big.Rat) []*big.Rat {
	all := make([]*big.Rat, len(values))
	for place, w := range f.perms {
		rest := new(big.Rat).Sub(values[place], values[f.other(w, k, k+1)])
		all[place] = rest.Quo(rest, big.NewRat(int64(f.y[w[k]]-f.y[w[k+1]]), 1))
	}
	return all
}

// differences returns, by the texts of all permutations, the divided differences of
// values along a reduced word, from its end on.
func (f localFinder) differences(values []int) map[string][]*big.Rat {
	all := map[string][]*big.Rat{}
	var find func(v []int) []*big.Rat
	find = func(v []int) []*big.Rat {
		if all[text(v)] == nil {
			k := reducedWord(v)[0]
			all[text(v)] = f.difference(k, find(productOf(swapOf(len(v), k), v)))
		}
		return all[text(v)]
	}
	for _, value := range values {
		all[text(f.perms[0])] = append(all[text(f.perms[0])], big.NewRat(int64(value), 1))
	}
	for _, v := range f.perms {
		find(v)
	}
	return all
}

// expand finds each number as what the divided differences leave at the identity. It
// tells whether all of them are integers within the limits.
func (f localFinder) expand(values []int) ([]impl.Class, bool) {
	differences := f.differences(values)
	var l []impl.Class
	for _, v := range f.perms {
		count := differences[text(v)][0]
		if !count.IsInt() || new(big.Int).Abs(count.Num()).Cmp(big.NewInt(1e9)) > 0 {
			return nil, false
		}
		if count.Sign() != 0 {
			l = append(l, impl.Class{Perm: trimmed(v), Count: int(count.Num().Int64())})
		}
	}
	slices.SortFunc(l, func(a, b impl.Class) int { return slices.Compare(a.Perm, b.Perm) })
	return l, true
}

// randomClasses returns classes of some permutations of n, in ascending order.
func randomClasses(source *rand.Rand, n int, greatest int) []impl.Class {
	var l []impl.Class
	for _, w := range permsOf(n) {
		if count := source.IntN(2*greatest+1) - greatest; count != 0 && source.IntN(3) > 0 {
			l = append(l, impl.Class{Perm: trimmed(w), Count: count})
		}
	}
	slices.SortFunc(l, func(a, b impl.Class) int { return slices.Compare(a.Perm, b.Perm) })
	return l
}

// someLocalValues returns values for n and y: sums of classes, such with a value
// changed, and others.
func someLocalValues(t *testing.T, source *rand.Rand, y []int) [][]int {
	t.Helper()
	n := len(y)
	known := tables(t, y)
	count := len(permsOf(n))
	all := [][]int{make([]int, count), repeated(1, count), repeated(-5, count), ascending(count)}
	for _, change := range []int{1, 2, 3, 4, 6, 8, 12, 18, 24, 36, 72, -30} {
		for i := range 5 {
			values := valuesOf(randomClasses(source, n, 1+i*i*i*50), known, n)
			all = append(all, slices.Clone(values))
			place := source.IntN(count)
			if i%2 == 0 {
				place = count - 1
			}
			values[place] += change
			all = append(all, values)
		}
	}
	return all
}
