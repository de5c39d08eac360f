package tests

import (
	"fmt"
	"math"
	"slices"
	"strings"
	"testing"

	"loop.example/g03113/impl"
)

func TestLimitsOfPermutations(t *testing.T) {
	is(t, "MaxN, MaxWord, MaxWords", text(impl.MaxN, impl.MaxWord, impl.MaxWords), "7 60 800")
	is(t, "Cell", text(impl.Cell{Row: 1, Col: 2}), "{1 2}")
}

func TestFormatInt(t *testing.T) {
	for n, want := range map[int]string{
		0: "0", 7: "7", -7: "-7", 10: "10", -100: "-100", 1000000000: "1000000000",
		math.MaxInt: "9223372036854775807", math.MinInt: "-9223372036854775808",
	} {
		is(t, "FormatInt of "+want, impl.FormatInt(n), want)
	}
}

func TestFormatInts(t *testing.T) {
	is(t, "FormatInts of nil", impl.FormatInts(nil), "")
	is(t, "FormatInts of no numbers", impl.FormatInts([]int{}), "")
	is(t, "FormatInts of one number", impl.FormatInts([]int{-3}), "-3")
	is(t, "FormatInts of three", impl.FormatInts([]int{12, 0, -5}), "12 0 -5")
	is(t, "FormatInts of the ends", impl.FormatInts([]int{math.MinInt, math.MaxInt}), "-9223372036854775808 9223372036854775807")
}

func TestParseIntsReads(t *testing.T) {
	for s, want := range map[string]string{
		"": "[] true", "0": "[0] true", "7": "[7] true", "-7": "[-7] true", "1 2": "[1 2] true", "10 -20 0 5": "[10 -20 0 5] true",
		"999999999": "[999999999] true", "-999999999": "[-999999999] true",
		"999999999 -999999999 0": "[999999999 -999999999 0] true", "100000000": "[100000000] true",
	} {
		is(t, fmt.Sprintf("ParseInts of %q", s), text(impl.ParseInts(s)), want)
	}
}

func TestParseIntsFails(t *testing.T) {
	for _, s := range []string{
		" ", "  ", "1 ", " 1", "1  2", "+1", "-0", "00", "01", "-01", "1 02", "1,2", "1\t2", "1\n", "\n1", "\n", "a", "1a", "a1", "-", "--1", "- 1", "1 -", "1-", "1.0", "1.",
		"1e3", "0x1", "1_0", "\x00", "1\x00", "\u0661", "\uff11", "1 \u00a02", "\xff", "1 2 x", "x 1 2", "1 2 ",
		"1000000000", "-1000000000", "1 1000000000", "-1000000000 1", "0999999999", "9223372036854775807", "-9223372036854775808",
		"9223372036854775808", "4294967297", "18446744073709551617", "-18446744073709551617", strings.Repeat("9", 100000), "-" + strings.Repeat("0", 100000),
	} {
		is(t, fmt.Sprintf("ParseInts of %.40q", s), text(impl.ParseInts(s)), "[] false")
	}
}

func TestParseIntsReadsWhatFormatIntsWrites(t *testing.T) {
	long := make([]int, 100000)
	for i := range long {
		long[i] = (i*7919)%1999999999 - 999999999
	}
	for _, l := range [][]int{nil, {0}, {1, 2, 3}, {-999999999, 999999999}, long} {
		got, ok := impl.ParseInts(impl.FormatInts(l))
		if !ok || !slices.Equal(got, l) {
			t.Errorf("%d numbers are not read again as they are written: %d, %v", len(l), len(got), ok)
		}
	}
}

func TestIsPerm(t *testing.T) {
	for _, w := range somePerms() {
		isTrue(t, text("IsPerm of", w), impl.IsPerm(w))
	}
	for _, w := range notPerms() {
		isFalse(t, brief("IsPerm of", w), impl.IsPerm(w))
	}
	for n := 1; n <= 4; n++ {
		count := 0
		for _, w := range wordsOf(n+1, n) {
			if impl.IsPerm(w) {
				count++
			}
		}
		is(t, text("permutations of", n), text(count), text(len(permsOf(n))))
	}
}

func TestIdentityAndLongestPerm(t *testing.T) {
	for n := 1; n <= 7; n++ {
		perms := permsOf(n)
		is(t, text("IdentityPerm of", n), text(impl.IdentityPerm(n)), text(perms[0]))
		is(t, text("LongestPerm of", n), text(impl.LongestPerm(n)), text(perms[len(perms)-1]))
	}
	for _, n := range []int{0, -1, 8, 9, -7, 64, math.MaxInt, math.MinInt} {
		is(t, text("IdentityPerm of", n), text(impl.IdentityPerm(n)), "[]")
		is(t, text("LongestPerm of", n), text(impl.LongestPerm(n)), "[]")
	}
}

func TestComposePermsReadsFromRightToLeft(t *testing.T) {
	is(t, "120 times 021", text(impl.ComposePerms([]int{1, 2, 0}, []int{0, 2, 1})), "[1 0 2]")
	is(t, "021 times 120", text(impl.ComposePerms([]int{0, 2, 1}, []int{1, 2, 0})), "[2 1 0]")
	for n := 1; n <= 4; n++ {
		for _, u := range permsOf(n) {
			for _, v := range permsOf(n) {
				is(t, text("ComposePerms of", u, v), text(impl.ComposePerms(u, v)), text(productOf(u, v)))
			}
		}
	}
	u, v := []int{6, 2, 4, 0, 1, 5, 3}, []int{3, 6, 1, 0, 5, 2, 4}
	is(t, "ComposePerms of two of 7", text(impl.ComposePerms(u, v)), text(productOf(u, v)))
}

// TestGroup multiplies all permutations of one size: it depends on nothing but the
// functions of the program.
func TestGroup(t *testing.T) {
	for n := 1; n <= 4; n++ {
		one := impl.IdentityPerm(n)
		for _, u := range permsOf(n) {
			is(t, text("one times", u), text(impl.ComposePerms(one, u)), text(u))
			is(t, text(u, "times one"), text(impl.ComposePerms(u, one)), text(u))
			for _, v := range permsOf(n) {
				uv := impl.ComposePerms(u, v)
				is(t, text("the inverse of", u, v), text(impl.InversePerm(uv)), text(impl.ComposePerms(impl.InversePerm(v), impl.InversePerm(u))))
				for _, w := range permsOf(n) {
					is(t, text(u, v, w), text(impl.ComposePerms(uv, w)), text(impl.ComposePerms(u, impl.ComposePerms(v, w))))
				}
			}
		}
	}
}

func TestComposePermsOfNone(t *testing.T) {
	for _, w := range notPerms() {
		for _, v := range append(notPerms(), []int{0}, []int{1, 0}, ascending(7)) {
			is(t, brief("ComposePerms of", w, v), text(impl.ComposePerms(w, v)), "[]")
			is(t, brief("ComposePerms of", v, w), text(impl.ComposePerms(v, w)), "[]")
		}
	}
	for m := 1; m <= 7; m++ {
		for n := 1; n <= 7; n++ {
			if m != n {
				is(t, text("ComposePerms of the sizes", m, n), text(impl.ComposePerms(ascending(m), ascending(n))), "[]")
			}
		}
	}
}

func TestInversePerm(t *testing.T) {
	is(t, "InversePerm of 120", text(impl.InversePerm([]int{1, 2, 0})), "[2 0 1]")
	for _, w := range somePerms() {
		v := impl.InversePerm(w)
		if len(v) != len(w) {
			t.Errorf("InversePerm of %v: %v", w, v)
			continue
		}
		is(t, text(w, "times its inverse"), text(productOf(w, v)), text(ascending(len(w))))
	}
}

func TestLengthAndDescents(t *testing.T) {
	for _, w := range somePerms() {
		is(t, text("LengthOf", w), text(impl.LengthOf(w)), text(inversionsOf(w)))
		var descents []int
		for k := range len(w) - 1 {
			if w[k] > w[k+1] {
				descents = append(descents, k)
			}
		}
		is(t, text("DescentsOf", w), text(impl.DescentsOf(w)), text(descents))
	}
	is(t, "LengthOf the longest of 7", text(impl.LengthOf([]int{6, 5, 4, 3, 2, 1, 0})), "21")
	is(t, "LengthOf the permutation of 1", text(impl.LengthOf([]int{0})), "0")
	is(t, "DescentsOf the longest of 7", text(impl.DescentsOf([]int{6, 5, 4, 3, 2, 1, 0})), "[0 1 2 3 4 5]")
	is(t, "DescentsOf the permutation of 1", text(impl.DescentsOf([]int{0})), "[]")
}

func TestCodes(t *testing.T) {
	is(t, "CodeOf 201", text(impl.CodeOf([]int{2, 0, 1})), "[2 0 0]")
	is(t, "CodeOf 120", text(impl.CodeOf([]int{1, 2, 0})), "[1 1 0]")
	for _, w := range somePerms() {
		code := make([]int, len(w))
		for i := range w {
			for j := i + 1; j < len(w); j++ {
				if w[i] > w[j] {
					code[i]++
				}
			}
		}
		is(t, text("CodeOf", w), text(impl.CodeOf(w)), text(code))
		is(t, text("PermOfCode", code), text(impl.PermOfCode(code)), text(w))
	}
}

func TestPermOfCodeOfNoCode(t *testing.T) {
	bad := [][]int{
		nil, {}, {1}, {-1}, {0, 1}, {2, 0}, {1, -1}, {-1, 0}, {0, 2, 0}, {3, 0, 0}, {0, 0, 1}, {0, 0, -1}, {2, 1, 1}, {math.MaxInt}, {math.MinInt},
		{math.MaxInt, 0}, {0, math.MinInt, 0}, repeated(0, 8), {7, 6, 5, 4, 3, 2, 1, 0}, repeated(0, 100000), {7, 0, 0, 0, 0, 0, 0}, {0, 0, 0, 0, 0, 0, 1},
	}
	for _, c := range bad {
		is(t, brief("PermOfCode", c), text(impl.PermOfCode(c)), "[]")
	}
	for n := 1; n <= 7; n++ {
		for i := range n {
			c := make([]int, n)
			c[i] = n - 1 - i
			isTrue(t, text("PermOfCode", c), len(impl.PermOfCode(c)) == n)
			c[i]++
			is(t, text("PermOfCode", c), text(impl.PermOfCode(c)), "[]")
		}
	}
}

func TestEmbedPerm(t *testing.T) {
	for _, w := range somePerms() {
		for n := len(w); n <= 7; n++ {
			is(t, text("EmbedPerm", w, n), text(impl.EmbedPerm(w, n)), text(append(slices.Clone(w), ascending(7)[len(w):n]...)))
		}
		for _, n := range []int{len(w) - 1, 0, 8, -1, math.MaxInt, math.MinInt} {
			is(t, text("EmbedPerm", w, n), text(impl.EmbedPerm(w, n)), "[]")
		}
	}
	for _, w := range notPerms() {
		for _, n := range []int{0, 1, 2, len(w), 7, 8} {
			is(t, brief("EmbedPerm", w, n), text(impl.EmbedPerm(w, n)), "[]")
		}
	}
}

func TestTrimPerm(t *testing.T) {
	for _, w := range somePerms() {
		n := len(w)
		for n > 1 && w[n-1] == n-1 {
			n--
		}
		is(t, text("TrimPerm", w), text(impl.TrimPerm(w)), text(w[:n]))
		is(t, text("TrimPerm of EmbedPerm", w), text(impl.TrimPerm(impl.EmbedPerm(w, 7))), text(w[:n]))
	}
	is(t, "TrimPerm of the identity of 7", text(impl.TrimPerm(ascending(7))), "[0]")
	is(t, "TrimPerm with a place before the end", text(impl.TrimPerm([]int{2, 1, 0, 3})), "[2 1 0]")
}

func TestRankAt(t *testing.T) {
	is(t, "RankAt 120, 2, 1", text(impl.RankAt([]int{1, 2, 0}, 2, 1)), "0")
	is(t, "RankAt 120, 1, 2", text(impl.RankAt([]int{1, 2, 0}, 1, 2)), "1")
	for _, w := range somePerms() {
		for r := range len(w) + 1 {
			for c := range len(w) + 1 {
				is(t, text("RankAt", w, r, c), text(impl.RankAt(w, r, c)), text(rankOf(w, r, c)))
			}
		}
		for _, out := range []int{-1, len(w) + 1, 8, math.MaxInt, math.MinInt} {
			for _, in := range []int{0, 1, len(w), out} {
				is(t, text("RankAt", w, out, in), text(impl.RankAt(w, out, in)), "-1")
				is(t, text("RankAt", w, in, out), text(impl.RankAt(w, in, out)), "-1")
			}
		}
	}
	for _, w := range notPerms() {
		is(t, brief("RankAt", w, 0, 0), text(impl.RankAt(w, 0, 0)), "-1")
	}
}

// reducedWord sorts v by swaps of neighbours: it returns the swaps whose product
// is v.
func reducedWord(v []int) []int {
	v = slices.Clone(v)
	var word []int
	for k := 0; k < len(v)-1; k++ {
		if v[k] > v[k+1] {
			v = exchanged(v, k, k+1)
			word = append(word, k)
			k = -1
		}
	}
	slices.Reverse(word)
	return word
}

// productsWithin returns the products of all parts of a word, as texts: what is
// below a permutation is what the parts of a reduced word of it give.
func productsWithin(n int, word []int) map[string]bool {
	found := map[string]bool{}
	for chosen := range 1 << len(word) {
		w := ascending(n)
		for i, k := range word {
			if chosen>>i&1 == 1 {
				w = exchanged(w, k, k+1)
			}
		}
		found[text(w)] = true
	}
	return found
}

func TestIsBelowPerm(t *testing.T) {
	for _, v := range append(permsUpTo(5), []int{1, 6, 0, 2, 4, 3, 5}, []int{2, 0, 3, 1, 4, 6, 5}) {
		below := productsWithin(len(v), reducedWord(v))
		for _, u := range permsOf(len(v)) {
			is(t, text("IsBelowPerm", u, v), text(impl.IsBelowPerm(u, v)), text(below[text(u)]))
		}
	}
	for _, w := range somePerms() {
		isTrue(t, text("the identity is below", w), impl.IsBelowPerm(ascending(len(w)), w))
		isTrue(t, text("the longest is above", w), impl.IsBelowPerm(w, impl.LongestPerm(len(w))))
	}
}

func TestIsBelowPermIsAnOrder(t *testing.T) {
	perms := permsOf(4)
	for _, u := range perms {
		isTrue(t, text(u, "below itself"), impl.IsBelowPerm(u, u))
		for _, v := range perms {
			if !impl.IsBelowPerm(u, v) {
				continue
			}
			isTrue(t, text("the inverses of", u, v), impl.IsBelowPerm(impl.InversePerm(u), impl.InversePerm(v)))
			isFalse(t, text(v, "below", u, "also"), impl.IsBelowPerm(v, u) && !slices.Equal(u, v))
			for _, w := range perms {
				isFalse(t, text(u, v, w), impl.IsBelowPerm(v, w) && !impl.IsBelowPerm(u, w))
			}
		}
	}
}

func TestIsBelowPermOfNone(t *testing.T) {
	for _, w := range notPerms() {
		for _, v := range append(notPerms(), []int{0}, []int{1, 0}, impl.LongestPerm(7)) {
			isFalse(t, brief("IsBelowPerm", w, v), impl.IsBelowPerm(w, v))
			isFalse(t, brief("IsBelowPerm", v, w), impl.IsBelowPerm(v, w))
		}
	}
	for m := 1; m <= 7; m++ {
		for n := 1; n <= 7; n++ {
			if m != n {
				isFalse(t, text("IsBelowPerm of the sizes", m, n), impl.IsBelowPerm(ascending(m), ascending(n)))
				isFalse(t, text("IsBelowPerm of the sizes", m, n), impl.IsBelowPerm(ascending(m), impl.LongestPerm(n)))
			}
		}
	}
}

func TestCoversOf(t *testing.T) {
	is(t, "CoversOf 012", text(impl.CoversOf([]int{0, 1, 2})), "[[0 2 1] [1 0 2]]")
	is(t, "CoversOf 201", text(impl.CoversOf([]int{2, 0, 1})), "[[2 1 0]]")
	is(t, "CoversOf 0", text(impl.CoversOf([]int{0})), "[]")
	is(t, "CoversOf the longest of 7", text(impl.CoversOf(impl.LongestPerm(7))), "[]")
	for _, w := range somePerms() {
		var covers [][]int
		for j := range w {
			for i := range j {
				if v := exchanged(w, i, j); inversionsOf(v) == inversionsOf(w)+1 {
					covers = append(covers, v)
				}
			}
		}
		slices.SortFunc(covers, slices.Compare)
		is(t, text("CoversOf", w), text(impl.CoversOf(w)), text(covers))
	}
}

// TestCoversAreTheNextAbove holds the covers against the order.
func TestCoversAreTheNextAbove(t *testing.T) {
	for _, w := range permsUpTo(5) {
		var covers [][]int
		for _, v := range permsOf(len(w)) {
			if impl.IsBelowPerm(w, v) && impl.LengthOf(v) == impl.LengthOf(w)+1 {
				covers = append(covers, v)
			}
		}
		is(t, text("CoversOf", w), text(impl.CoversOf(w)), text(covers))
	}
}

func diagramOf(w []int) []impl.Cell {
	var cells []impl.Cell
	for i := range w {
		for j := range w {
			if w[i] > j && slices.Index(w, j) > i {
				cells = append(cells, impl.Cell{Row: i, Col: j})
			}
		}
	}
	return cells
}

func TestDiagramOf(t *testing.T) {
	is(t, "DiagramOf 1302", text(impl.DiagramOf([]int{1, 3, 0, 2})), "[{0 0} {1 0} {1 2}]")
	is(t, "DiagramOf 0", text(impl.DiagramOf([]int{0})), "[]")
	for _, w := range somePerms() {
		cells := impl.DiagramOf(w)
		is(t, text("DiagramOf", w), text(cells), text(diagramOf(w)))
		rows, cols := make([]int, len(w)), make([]int, len(w))
		for _, cell := range cells {
			rows[cell.Row]++
			cols[cell.Col]++
		}
		is(t, text("the rows of the diagram of", w), text(rows), text(impl.CodeOf(w)))
		is(t, text("the columns of the diagram of", w), text(cols), text(impl.CodeOf(impl.InversePerm(w))))
	}
}

func TestEssentialOf(t *testing.T) {
	is(t, "EssentialOf 201", text(impl.EssentialOf([]int{2, 0, 1})), "[{0 1}]")
	is(t, "EssentialOf 120", text(impl.EssentialOf([]int{1, 2, 0})), "[{1 0}]")
	is(t, "EssentialOf 3210", text(impl.EssentialOf([]int{3, 2, 1, 0})), "[{0 2} {1 1} {2 0}]")
	is(t, "EssentialOf 1032", text(impl.EssentialOf([]int{1, 0, 3, 2})), "[{0 0} {2 2}]")
	is(t, "EssentialOf 0", text(impl.EssentialOf([]int{0})), "[]")
	for _, w := range somePerms() {
		diagram := diagramOf(w)
		var essential []impl.Cell
		for _, cell := range diagram {
			below, right := cell, cell
			below.Row++
			right.Col++
			if !slices.Contains(diagram, below) && !slices.Contains(diagram, right) {
				essential = append(essential, cell)
			}
		}
		is(t, text("EssentialOf", w), text(impl.EssentialOf(w)), text(essential))
	}
}

// TestEssentialRanksDecide asks for ranks at the essential cells alone: they decide
// what is below.
func TestEssentialRanksDecide(t *testing.T) {
	for _, w := range permsUpTo(5) {
		for _, v := range permsOf(len(w)) {
			keeps := true
			for _, cell := range impl.EssentialOf(w) {
				keeps = keeps && impl.RankAt(v, cell.Row+1, cell.Col+1) <= impl.RankAt(w, cell.Row+1, cell.Col+1)
			}
			is(t, text(w, "below", v), text(keeps), text(impl.IsBelowPerm(w, v)))
		}
	}
}

// TestListsOfNoPermutation calls what has a list or a number for a permutation with
// lists that are none.
func TestListsOfNoPermutation(t *testing.T) {
	for _, w := range notPerms() {
		name := brief("of", w)
		is(t, "InversePerm "+name, text(impl.InversePerm(w)), "[]")
		is(t, "LengthOf "+name, text(impl.LengthOf(w)), "-1")
		is(t, "DescentsOf "+name, text(impl.DescentsOf(w)), "[]")
		is(t, "CodeOf "+name, text(impl.CodeOf(w)), "[]")
		is(t, "TrimPerm "+name, text(impl.TrimPerm(w)), "[]")
		is(t, "CoversOf "+name, text(impl.CoversOf(w)), "[]")
		is(t, "DiagramOf "+name, text(impl.DiagramOf(w)), "[]")
		is(t, "EssentialOf "+name, text(impl.EssentialOf(w)), "[]")
		is(t, "ReducedWords "+name, text(impl.ReducedWords(w)), "[] false")
		is(t, "CountReduced "+name, text(impl.CountReduced(w)), "-1")
		isFalse(t, "IsVexillary "+name, impl.IsVexillary(w))
		isFalse(t, "IsGrassmannian "+name, impl.IsGrassmannian(w))
		is(t, "FormatPerm "+name, impl.FormatPerm(w), "")
	}
}
