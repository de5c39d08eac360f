package tests

import (
	"fmt"
	"reflect"
	"slices"
	"strings"
	"testing"
)

// text writes results down, so that a nil slice and an empty one look alike, as
// they are equivalent.
func text(results ...any) string {
	return strings.TrimSuffix(fmt.Sprintln(results...), "\n")
}

func is(t *testing.T, what string, got string, want string) {
	t.Helper()
	if got != want {
		t.Errorf("%s: %s, want %s", what, shortened(got), shortened(want))
	}
}

func isTrue(t *testing.T, what string, got bool) {
	t.Helper()
	if !got {
		t.Errorf("%s: false, want true", what)
	}
}

func isFalse(t *testing.T, what string, got bool) {
	t.Helper()
	if got {
		t.Errorf("%s: true, want false", what)
	}
}

func shortened(s string) string {
	if len(s) > 300 {
		return s[:300] + ".."
	}
	return s
}

// brief is text for names of cases: it only tells the length of a long list.
func brief(parts ...any) string {
	for i, part := range parts {
		if l := reflect.ValueOf(part); l.Kind() == reflect.Slice && l.Len() > 20 {
			parts[i] = fmt.Sprintf("a list of %d", l.Len())
		}
	}
	return text(parts...)
}

// permsOf returns all permutations of n in ascending order.
func permsOf(n int) [][]int {
	if n == 0 {
		return [][]int{{}}
	}
	var all [][]int
	for first := range n {
		for _, rest := range permsOf(n - 1) {
			w := []int{first}
			for _, x := range rest {
				if x >= first {
					x++
				}
				w = append(w, x)
			}
			all = append(all, w)
		}
	}
	return all
}

// permsUpTo returns all permutations of the sizes from 1 to n.
func permsUpTo(n int) [][]int {
	var all [][]int
	for size := 1; size <= n; size++ {
		all = append(all, permsOf(size)...)
	}
	return all
}

// somePerms returns all permutations of at most 5, and some of 6 and of 7.
func somePerms() [][]int {
	all := permsUpTo(5)
	for size := 6; size <= 7; size++ {
		perms := permsOf(size)
		for i := 0; i < len(perms); i += 59 {
			all = append(all, perms[i])
		}
		all = append(all, perms[len(perms)-1])
	}
	return all
}

// notPerms returns lists that are no permutations.
func notPerms() [][]int {
	const greatest = int(^uint(0) >> 1)
	return [][]int{
		nil, {}, {1}, {-1}, {7}, {0, 0}, {1, 1}, {0, 2}, {1, 2}, {-1, 0}, {0, -1}, {2, 0}, {1, 0, 1}, {2, 1, 2},
		{1, 2, 3}, {0, 1, 3}, {3, 2, 1, 0, 0}, {greatest}, {-greatest - 1, 0}, {0, greatest}, {0, 1 << 32}, {1 << 8, 1},
		{0, 1, 2, 3, 4, 5, 5}, {0, 1, 2, 3, 4, 5, 7}, {0, 1, 2, 3, 4, 5, 6, 7}, {7, 6, 5, 4, 3, 2, 1, 0},
		ascending(64), ascending(65), ascending(100000), make([]int, 100000),
	}
}

func ascending(n int) []int {
	l := make([]int, n)
	for i := range l {
		l[i] = i
	}
	return l
}

// productOf returns the list with u[v[i]] at each place i.
func productOf(u []int, v []int) []int {
	w := make([]int, len(v))
	for i, x := range v {
		w[i] = u[x]
	}
	return w
}

func inversionsOf(w []int) int {
	count := 0
	for j := range w {
		for i := range j {
			if w[i] > w[j] {
				count++
			}
		}
	}
	return count
}

func exchanged(w []int, i int, j int) []int {
	v := slices.Clone(w)
	v[i], v[j] = v[j], v[i]
	return v
}

func rankOf(w []int, r int, c int) int {
	count := 0
	for i, x := range w {
		if i < r && x < c {
			count++
		}
	}
	return count
}

// wordsOf returns all lists of the given length with numbers less than n, in
// ascending order.
func wordsOf(n int, length int) [][]int {
	words := [][]int{{}}
	for range length {
		var longer [][]int
		for _, word := range words {
			for k := range n {
				longer = append(longer, append(slices.Clone(word), k))
			}
		}
		words = longer
	}
	return words
}

func repeated(number int, times int) []int {
	l := make([]int, times)
	for i := range l {
		l[i] = number
	}
	return l
}
