package tests

import (
	"fmt"
	"math"
	"slices"
	"strings"
	"testing"

	"loop.example/g03113/impl"
)

func TestWordPerm(t *testing.T) {
	is(t, "WordPerm of 1 0", text(impl.WordPerm(3, []int{1, 0})), "[2 0 1]")
	is(t, "WordPerm of 0 1", text(impl.WordPerm(3, []int{0, 1})), "[1 2 0]")
	is(t, "WordPerm of 0 0", text(impl.WordPerm(3, []int{0, 0})), "[0 1 2]")
	for n := 1; n <= 7; n++ {
		is(t, text("WordPerm of the empty word for", n), text(impl.WordPerm(n, nil)), text(ascending(n)))
		is(t, text("DemazurePerm of the empty word for", n), text(impl.DemazurePerm(n, nil)), text(ascending(n)))
	}
	for _, word := range append(wordsOf(3, 5), wordsOf(3, 3)...) {
		w := ascending(4)
		for _, k := range word {
			w = productOf(w, exchanged(ascending(4), k, k+1))
		}
		is(t, text("WordPerm of", word), text(impl.WordPerm(4, word)), text(w))
	}
	is(t, "WordPerm of a word for 7", text(impl.WordPerm(7, []int{5, 4, 3, 2, 1, 0})), "[6 0 1 2 3 4 5]")
}

func TestDemazurePerm(t *testing.T) {
	is(t, "DemazurePerm of 0 0", text(impl.DemazurePerm(3, []int{0, 0})), "[1 0 2]")
	is(t, "DemazurePerm of 1 0 1 0", text(impl.DemazurePerm(3, []int{1, 0, 1, 0})), "[2 1 0]")
	for length := range 6 {
		for _, word := range wordsOf(3, length) {
			w := ascending(4)
			for _, k := range word {
				if w[k] < w[k+1] {
					w = exchanged(w, k, k+1)
				}
			}
			is(t, text("DemazurePerm of", word), text(impl.DemazurePerm(4, word)), text(w))
		}
	}
}

// TestDemazurePermIsGreatest holds the product without falls against the order: it
// is above the products of all parts of the word, and is one of them.
func TestDemazurePermIsGreatest(t *testing.T) {
	for _, word := range wordsOf(3, 5) {
		w := impl.DemazurePerm(4, word)
		within := productsWithin(4, word)
		isTrue(t, text("DemazurePerm of", word, "is the product of a part"), within[text(w)])
		for _, u := range permsOf(4) {
			isFalse(t, text(u, "comes of", word, "and is not below"), within[text(u)] && !impl.IsBelowPerm(u, w))
		}
	}
}

func TestLongestWords(t *testing.T) {
	word := append(repeated(0, impl.MaxWord-1), 5)
	is(t, "WordPerm of MaxWord numbers", text(impl.WordPerm(7, word)), "[1 0 2 3 4 6 5]")
	is(t, "DemazurePerm of MaxWord numbers", text(impl.DemazurePerm(7, word)), "[1 0 2 3 4 6 5]")
	for _, longer := range [][]int{append(word, 0), repeated(0, 61), repeated(0, 64), repeated(0, 100000)} {
		is(t, text("WordPerm of", len(longer), "numbers"), text(impl.WordPerm(7, longer)), "[]")
		is(t, text("DemazurePerm of", len(longer), "numbers"), text(impl.DemazurePerm(7, longer)), "[]")
	}
}

func TestNoWords(t *testing.T) {
	for n := 1; n <= 7; n++ {
		for _, k := range []int{-1, n - 1, n, 7, math.MaxInt, math.MinInt} {
			for _, word := range [][]int{{k}, append(ascending(n-1), k), append([]int{k}, ascending(n-1)...)} {
				is(t, text("WordPerm of", n, word), text(impl.WordPerm(n, word)), "[]")
				is(t, text("DemazurePerm of", n, word), text(impl.DemazurePerm(n, word)), "[]")
			}
		}
		if n > 1 {
			isTrue(t, text("a word with the last swap for", n), len(impl.WordPerm(n, []int{n - 2})) == n && len(impl.DemazurePerm(n, []int{n - 2})) == n)
		}
	}
	for _, n := range []int{0, -1, 8, 9, math.MaxInt, math.MinInt} {
		for _, word := range [][]int{nil, {}, {0}, {0, 1}, {6}} {
			is(t, text("WordPerm of", n, word), text(impl.WordPerm(n, word)), "[]")
			is(t, text("DemazurePerm of", n, word), text(impl.DemazurePerm(n, word)), "[]")
		}
	}
}

// reducedByLevels returns all reduced words for n, by the text of their products.
// A longer one is found by a swap that makes one of the level before longer.
func reducedByLevels(n int) map[string][][]int {
	type step struct {
		perm []int
		word []int
	}
	found := map[string][][]int{}
	level := []step{{perm: ascending(n)}}
	for len(level) > 0 {
		var next []step
		for _, s := range level {
			found[text(s.perm)] = append(found[text(s.perm)], s.word)
			for k := range n - 1 {
				if s.perm[k] < s.perm[k+1] {
					next = append(next, step{exchanged(s.perm, k, k+1), append(slices.Clone(s.word), k)})
				}
			}
		}
		level = next
	}
	return found
}

func TestReducedWords(t *testing.T) {
	is(t, "ReducedWords of 210", text(impl.ReducedWords([]int{2, 1, 0})), "[[0 1 0] [1 0 1]] true")
	is(t, "ReducedWords of 201", text(impl.ReducedWords([]int{2, 0, 1})), "[[1 0]] true")
	is(t, "ReducedWords of 120", text(impl.ReducedWords([]int{1, 2, 0})), "[[0 1]] true")
	is(t, "ReducedWords of 0", text(impl.ReducedWords([]int{0})), "[[]] true")
	is(t, "ReducedWords of the identity of 7", text(impl.ReducedWords(ascending(7))), "[[]] true")
	is(t, "ReducedWords of the last swap", text(impl.ReducedWords([]int{0, 1, 2, 3, 4, 6, 5})), "[[5]] true")
	for n := 1; n <= 5; n++ {
		words := reducedByLevels(n)
		for _, w := range permsOf(n) {
			is(t, text("ReducedWords of", w), text(impl.ReducedWords(w)), text(words[text(w)], true))
			is(t, text("CountReduced of", w), text(impl.CountReduced(w)), text(len(words[text(w)])))
		}
	}
}

func TestReducedWordsBelongToTheirProducts(t *testing.T) {
	for _, w := range somePerms() {
		words, ok := impl.ReducedWords(w)
		count := impl.CountReduced(w)
		is(t, text("ReducedWords of", w, "succeeds"), text(ok), text(count <= impl.MaxWords))
		if !ok {
			is(t, text("ReducedWords of", w), text(words), "[]")
			continue
		}
		is(t, text("the number of words of", w), text(len(words)), text(count))
		isTrue(t, text("words in order of", w), slices.IsSortedFunc(words, slices.Compare))
		for _, word := range words {
			is(t, text("the length of", word), text(len(word)), text(impl.LengthOf(w)))
			is(t, text("WordPerm of", word), text(impl.WordPerm(len(w), word)), text(w))
			is(t, text("DemazurePerm of", word), text(impl.DemazurePerm(len(w), word)), text(w))
		}
	}
}

// TestManyReducedWords takes permutations near the limit: none of at most MaxN has
// from 790 to 809 reduced words.
func TestManyReducedWords(t *testing.T) {
	for _, near := range []struct {
		perm  string
		count int
	}{{"54321", 768}, {"1276543", 768}, {"2371654", 789}, {"2174653", 810}, {"562341", 825}, {"654321", 292864}, {"7654321", 1100742656}} {
		w, _ := impl.ParsePerm(near.perm)
		is(t, "CountReduced of "+near.perm, text(impl.CountReduced(w)), text(near.count))
		words, ok := impl.ReducedWords(w)
		is(t, "ReducedWords of "+near.perm+" succeeds", text(ok), text(near.count <= 800))
		if near.count <= 800 {
			is(t, "the number of words of "+near.perm, text(len(words)), text(near.count))
		} else {
			is(t, "ReducedWords of "+near.perm, text(words), "[]")
		}
	}
}

// hasPatternFrom goes on with the places from there on, when the numbers taken so
// far are in the same order as those at the beginning of p.
func hasPatternFrom(w []int, p []int, taken []int, from int) bool {
	if len(taken) == len(p) {
		return true
	}
	for i := from; i < len(w); i++ {
		fits := true
		for j, x := range taken {
			fits = fits && (x < w[i]) == (p[j] < p[len(taken)])
		}
		if fits && hasPatternFrom(w, p, append(slices.Clone(taken), w[i]), i+1) {
			return true
		}
	}
	return false
}

func TestHasPattern(t *testing.T) {
	isTrue(t, "201 has 201", impl.HasPattern([]int{2, 0, 1}, []int{2, 0, 1}))
	isFalse(t, "201 has 120", impl.HasPattern([]int{2, 0, 1}, []int{1, 2, 0}))
	isTrue(t, "3021 has 201", impl.HasPattern([]int{3, 0, 2, 1}, []int{2, 0, 1}))
	isFalse(t, "10 has 102", impl.HasPattern([]int{1, 0}, []int{1, 0, 2}))
	isTrue(t, "a pattern of 7", impl.HasPattern(impl.LongestPerm(7), impl.LongestPerm(7)))
	isTrue(t, "a pattern at the ends", impl.HasPattern([]int{5, 1, 2, 3, 4, 0, 6}, []int{1, 0, 2}))
	for _, w := range append(permsUpTo(5), []int{2, 5, 1, 6, 0, 4, 3}, []int{3, 0, 6, 1, 5, 2, 4}) {
		for _, p := range append(permsUpTo(4), []int{2, 0, 3, 1, 4}, []int{1, 3, 0, 4, 2, 5}) {
			is(t, text("HasPattern", w, p), text(impl.HasPattern(w, p)), text(hasPatternFrom(w, p, nil, 0)))
		}
	}
}

func TestHasPatternOfNone(t *testing.T) {
	for _, w := range notPerms() {
		for _, v := range append(notPerms(), []int{0}, []int{0, 1}, []int{1, 0, 2}, ascending(7)) {
			isFalse(t, brief("HasPattern", w, v), impl.HasPattern(w, v))
			isFalse(t, brief("HasPattern", v, w), impl.HasPattern(v, w))
		}
	}
}

func TestVexillaryAndGrassmannian(t *testing.T) {
	vexillary := []int{1, 2, 6, 23, 103, 513, 2761}
	for n := 1; n <= 7; n++ {
		countV, countG := 0, 0
		for _, w := range permsOf(n) {
			if impl.IsVexillary(w) {
				countV++
			}
			if impl.IsGrassmannian(w) {
				countG++
			}
		}
		is(t, text("vexillary permutations of", n), text(countV), text(vexillary[n-1]))
		is(t, text("Grassmannian permutations of", n), text(countG), text(1<<n-n))
	}
	for _, w := range permsUpTo(5) {
		descents := 0
		for k := range len(w) - 1 {
			if w[k] > w[k+1] {
				descents++
			}
		}
		is(t, text("IsGrassmannian", w), text(impl.IsGrassmannian(w)), text(descents <= 1))
		is(t, text("IsVexillary", w), text(impl.IsVexillary(w)), text(!hasPatternFrom(w, []int{1, 0, 3, 2}, nil, 0)))
	}
}

func TestFormatAndParsePerm(t *testing.T) {
	is(t, "FormatPerm of 201", impl.FormatPerm([]int{2, 0, 1}), "312")
	is(t, "FormatPerm of the longest of 7", impl.FormatPerm(impl.LongestPerm(7)), "7654321")
	is(t, "FormatPerm of 0", impl.FormatPerm([]int{0}), "1")
	for _, w := range somePerms() {
		s := ""
		for _, x := range w {
			s += fmt.Sprint(x + 1)
		}
		is(t, text("FormatPerm of", w), impl.FormatPerm(w), s)
		is(t, "ParsePerm of "+s, text(impl.ParsePerm(s)), text(w, true))
	}
}

func TestParsePermFails(t *testing.T) {
	for _, s := range []string{
		"", "0", "2", "7", "8", "01", "10", "11", "13", "23", "012", "021", "122", "124", "1 2", "1 0", "12 ", " 12", "12\n", "+1", "-1", "1,2", "a", "1a", "21x",
		"12345678", "87654321", "1234568", "1234566", "0123456", "\x00", "\x01\x00", "1\x00", "\u0661", "\uff11", "\xff", "\xb1", "1\xb2", "\x00\x01\x02",
		strings.Repeat("1", 100000), "1" + strings.Repeat("0", 300), strings.Repeat("21", 128) + "1",
	} {
		is(t, fmt.Sprintf("ParsePerm of %.40q", s), text(impl.ParsePerm(s)), "[] false")
	}
}
