package tests

import (
	"math"
	"slices"
	"strings"
	"testing"

	"loop.example/g03113/impl"
)

func one() free { return free{[7]int{}: 1} }

// monomialOf is the product of the powers of xi with the exponents exp.
func monomialOf(exp []int) free {
	var e [7]int
	copy(e[:], exp)
	return free{e: 1}
}

// shifted is xi - y.
func shifted(i int, y int) free { return variable(i).plus(-y, one()) }

// swapOf is the swap k of n.
func swapOf(n int, k int) []int { return exchanged(ascending(n), k, k+1) }

// schubert returns the Schubert polynomial of w.
func schubert(t *testing.T, w []int) []impl.Term {
	t.Helper()
	return must(t)(impl.SchubertPoly(w))
}

// perm reads a permutation that is known to be one.
func perm(s string) []int {
	w, ok := impl.ParsePerm(s)
	if !ok {
		panic("no permutation: " + s)
	}
	return w
}

// sum reads what FormatClasses writes.
func sum(s string) []impl.Class {
	var l []impl.Class
	for piece := range strings.SplitSeq(s, ", ") {
		count, digits, _ := strings.Cut(piece, ":")
		numbers, ok := impl.ParseInts(count)
		if !ok || len(numbers) != 1 {
			panic("no class: " + piece)
		}
		l = append(l, impl.Class{Perm: perm(digits), Count: numbers[0]})
	}
	return l
}

// trimmed returns w without what stays in its place at the end.
func trimmed(w []int) []int {
	for len(w) > 1 && w[len(w)-1] == len(w)-1 {
		w = w[:len(w)-1]
	}
	return slices.Clone(w)
}

// trimmedPerms returns the permutations of at most n that are their own TrimPerm,
// in ascending order: each permutation of n once.
func trimmedPerms(n int) [][]int {
	perms := permsOf(n)
	for i, w := range perms {
		perms[i] = trimmed(w)
	}
	slices.SortFunc(perms, slices.Compare)
	return perms
}

// cells reads dreams as rows of cells, such as "00 01 10".
func cells(s string) []impl.Cell {
	var l []impl.Cell
	for _, place := range strings.Fields(s) {
		l = append(l, impl.Cell{Row: int(place[0] - '0'), Col: int(place[1] - '0')})
	}
	return l
}

func compareCells(a impl.Cell, b impl.Cell) int {
	if a.Row != b.Row {
		return a.Row - b.Row
	}
	return a.Col - b.Col
}

func compareCellLists(a []impl.Cell, b []impl.Cell) int {
	return slices.CompareFunc(a, b, compareCells)
}

// staircase returns the cells of all dreams of n, in order.
func staircase(n int) []impl.Cell {
	var l []impl.Cell
	for i := range n {
		for j := range n {
			if i+j <= n-2 {
				l = append(l, impl.Cell{Row: i, Col: j})
			}
		}
	}
	return l
}

// allDreams returns all dreams of n, reduced or not.
func allDreams(n int) [][]impl.Cell {
	places := staircase(n)
	dreams := make([][]impl.Cell, 1<<len(places))
	for set := range dreams {
		for i, place := range places {
			if set>>i&1 == 1 {
				dreams[set] = append(dreams[set], place)
			}
		}
	}
	return dreams
}

// wordOf reads the word of a dream of n.
func wordOf(n int, dream []impl.Cell) []int {
	var word []int
	for i := range n {
		for j := n; j >= 0; j-- {
			if slices.Contains(dream, impl.Cell{Row: i, Col: j}) {
				word = append(word, i+j)
			}
		}
	}
	return word
}

// productOfWord multiplies the swaps of a word for n: all of them, or only those
// that do not fall.
func productOfWord(n int, word []int, rising bool) []int {
	w := ascending(n)
	for _, k := range word {
		if !rising || w[k] < w[k+1] {
			w[k], w[k+1] = w[k+1], w[k]
		}
	}
	return w
}

// reducedDreams returns the reduced dreams of n in ascending order, by the texts
// of their permutations.
func reducedDreams(n int) map[string][][]impl.Cell {
	found := map[string][][]impl.Cell{}
	for _, dream := range allDreams(n) {
		w := productOfWord(n, wordOf(n, dream), false)
		if inversionsOf(w) == len(dream) {
			found[text(w)] = append(found[text(w)], dream)
		}
	}
	for _, dreams := range found {
		slices.SortFunc(dreams, compareCellLists)
	}
	return found
}

// weightOf is the product of xi - y[j] over the crosses (i, j) of a dream.
func weightOf(dream []impl.Cell, y []int) free {
	weight := one()
	for _, c := range dream {
		weight = shifted(c.Row, y[c.Col]).times(weight)
	}
	return weight
}

func sumOfWeights(dreams [][]impl.Cell, y []int) free {
	total := free{}
	for _, dream := range dreams {
		total = total.plus(1, weightOf(dream, y))
	}
	return total
}

// notDream is a size with a list of crosses that is no dream of it.
type notDream struct {
	n       int
	crosses []impl.Cell
}

func notDreams() []notDream {
	var all []notDream
	for _, n := range []int{0, -1, 7, 8, 64, math.MaxInt, math.MinInt} {
		all = append(all, notDream{n, nil}, notDream{n, cells("00")}, notDream{n, cells("00 10")})
	}
	for n := 1; n <= 6; n++ {
		for i := range n + 2 {
			for j := range n + 2 {
				if i+j > n-2 {
					outside := impl.Cell{Row: i, Col: j}
					all = append(all, notDream{n, []impl.Cell{outside}}, notDream{n, []impl.Cell{{}, outside}})
				}
			}
		}
		all = append(all, notDream{n, make([]impl.Cell, 2)}, notDream{n, make([]impl.Cell, 100000)})
	}
	for _, far := range []impl.Cell{
		{Row: -1}, {Col: -1}, {Row: -1, Col: 1}, {Row: 1, Col: -1}, {Row: -1, Col: -1}, {Row: 9, Col: -9}, {Row: math.MinInt, Col: math.MaxInt}, {Row: math.MaxInt, Col: math.MinInt},
		{Row: math.MaxInt, Col: math.MaxInt}, {Row: math.MinInt, Col: math.MinInt}, {Row: 1 << 32, Col: -1 << 32}, {Row: 1 << 32}, {Col: 1 << 32}, {Col: math.MaxInt}, {Row: math.MaxInt}, {Row: math.MaxInt, Col: 1}, {Row: 1, Col: math.MaxInt},
	} {
		all = append(all, notDream{4, []impl.Cell{far}}, notDream{6, []impl.Cell{{}, far}}, notDream{6, []impl.Cell{far, {Row: 1, Col: 1}}})
	}
	for _, s := range []string{"01 00", "10 00", "10 01", "00 00", "10 10", "00 01 01", "00 01 00", "00 10 01", "02 01", "00 02 01 10", "20 10", "11 10", "00 10 10", "00 01 10 11 20 20"} {
		all = append(all, notDream{4, cells(s)}, notDream{6, cells(s)})
	}
	return all
}

// notClasses returns lists that are no sums of classes.
func notClasses() [][]impl.Class {
	all := [][]impl.Class{
		{{}}, {{}, {}}, {{Count: 1}}, {{Perm: []int{0}}}, {{Perm: []int{1, 0}, Count: 0}}, {{Perm: []int{0, 1}, Count: 1}}, {{Perm: []int{1, 0, 2}, Count: 1}}, {{Perm: ascending(7), Count: 1}},
		{{Perm: []int{1, 0, 2, 3, 4, 5, 6}, Count: 1}}, {{Perm: []int{1, 0, 2, 3, 5, 4, 6}, Count: -1}}, sum("1:21, 1:1"), sum("1:21, 1:132"), sum("1:21, 1:21"), sum("1:21, -1:21"), sum("2:1, 3:1"),
		sum("1:1, 1:132, 1:21, 1:1342"), sum("1:312, 1:231"), sum("1:321, 1:21"), sum("1:1, 1:21, 1:21"), {{Perm: []int{0}, Count: 1}, {Perm: []int{1, 0, 2}, Count: 1}}, {{Perm: []int{1, 0}, Count: 1}, {Perm: []int{1, 0, 2}, Count: 1}},
		manyClasses(101), manyClasses(150), manyClasses(5040), make([]impl.Class, 100000),
	}
	for _, w := range notPerms() {
		all = append(all, []impl.Class{{Perm: w, Count: 1}}, []impl.Class{{Perm: []int{0}, Count: 1}, {Perm: w, Count: 1}}, []impl.Class{{Perm: w, Count: 1}, {Perm: impl.LongestPerm(7), Count: 1}})
	}
	for _, count := range []int{0, 1000001, -1000001, 1 << 32, -1 << 32, math.MaxInt, math.MinInt} {
		all = append(all, []impl.Class{{Perm: []int{0}, Count: count}}, []impl.Class{{Perm: []int{0, 2, 1}, Count: 1}, {Perm: []int{1, 0}, Count: count}})
	}
	return all
}

// manyClasses returns the first n of all classes that are trimmed, with different
// Counts.
func manyClasses(n int) []impl.Class {
	l := make([]impl.Class, n)
	for i, w := range trimmedPerms(7)[:n] {
		l[i] = impl.Class{Perm: w, Count: 1 - 2*(i%2) + i/50}
		if l[i].Count == 0 {
			l[i].Count = 1000000
		}
	}
	return l
}

// monomialClasses returns classes whose Schubert polynomials have one term each:
// those of the permutations without the pattern 0 2 1.
func monomialClasses(n int) []impl.Class {
	var l []impl.Class
	for _, w := range trimmedPerms(7) {
		if len(l) < n && !hasPatternFrom(w, []int{0, 2, 1}, nil, 0) {
			l = append(l, impl.Class{Perm: w, Count: len(l)%7 + 1})
		}
	}
	return l
}

// freeClasses is the sum of the Schubert polynomials of l, and the greatest number
// of terms, and the greatest coefficient, that is met when they are added one
// after the other.
func freeClasses(t *testing.T, l []impl.Class) (free, int, int) {
	t.Helper()
	total, terms, coef := free{}, 0, 0
	for _, class := range l {
		total = total.plus(class.Count, freeOf(schubert(t, class.Perm)))
		f := total.terms()
		terms = max(terms, len(f))
		for _, term := range f {
			coef = max(coef, term.Coef, -term.Coef)
		}
	}
	return total, terms, coef
}
