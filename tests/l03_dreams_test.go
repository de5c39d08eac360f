package tests

import (
	"slices"
	"testing"

	"loop.example/g03113/impl"
)

func TestDreamWord(t *testing.T) {
	for _, c := range []struct {
		n       int
		crosses string
		want    string
	}{
		{1, "", "[] true"}, {6, "", "[] true"}, {2, "00", "[0] true"}, {3, "00 01", "[1 0] true"}, {3, "00 10", "[0 1] true"}, {3, "01 10", "[1 1] true"}, {3, "00 01 10", "[1 0 1] true"},
		{4, "00 02 10 11 20", "[2 0 2 1 2] true"}, {6, "04 13 22 31 40", "[4 4 4 4 4] true"}, {6, "00 01 02 03 04", "[4 3 2 1 0] true"}, {6, "00 10 20 30 40", "[0 1 2 3 4] true"},
	} {
		is(t, text("DreamWord of", c.n, c.crosses), text(impl.DreamWord(c.n, cells(c.crosses))), c.want)
	}
}

func TestDreamsAreRead(t *testing.T) {
	for n := 1; n <= 6; n++ {
		for i, dream := range allDreams(n) {
			if n == 6 && i%7 > 0 && i < 1<<15-20 {
				continue
			}
			word := wordOf(n, dream)
			is(t, text("DreamWord of", n, dream), text(impl.DreamWord(n, dream)), text(word, true))
			w := productOfWord(n, word, false)
			want := text(w, true)
			if inversionsOf(w) < len(dream) {
				want = "[] false"
			}
			is(t, text("DreamPerm of", n, dream), text(impl.DreamPerm(n, dream)), want)
		}
	}
}

func TestDreamPerm(t *testing.T) {
	for _, c := range []struct {
		n       int
		crosses string
		want    string
	}{
		{1, "", "[0] true"}, {2, "", "[0 1] true"}, {6, "", "[0 1 2 3 4 5] true"}, {2, "00", "[1 0] true"}, {3, "00", "[1 0 2] true"}, {3, "00 01", "[2 0 1] true"}, {3, "00 10", "[1 2 0] true"}, {3, "01", "[0 2 1] true"},
		{3, "01 10", "[] false"}, {4, "01 10", "[] false"}, {3, "00 01 10", "[2 1 0] true"}, {4, "02 11", "[] false"}, {4, "00 02", "[1 0 3 2] true"}, {4, "00 11", "[1 0 3 2] true"}, {4, "00 20", "[1 0 3 2] true"},
	} {
		is(t, text("DreamPerm of", c.n, c.crosses), text(impl.DreamPerm(c.n, cells(c.crosses))), c.want)
	}
	for n := 1; n <= 6; n++ {
		is(t, text("DreamPerm of all cells of", n), text(impl.DreamPerm(n, staircase(n))), text(impl.LongestPerm(n), true))
	}
}

func TestNoDreams(t *testing.T) {
	for _, none := range notDreams() {
		what := brief("of", none.n, none.crosses)
		is(t, "DreamWord "+what, text(impl.DreamWord(none.n, none.crosses)), "[] false")
		is(t, "DreamPerm "+what, text(impl.DreamPerm(none.n, none.crosses)), "[] false")
		is(t, "LadderMoves "+what, text(impl.LadderMoves(none.n, none.crosses)), "[]")
	}
	// A dream of n is one of all greater sizes, and of no less one that it does not fit in.
	for n := 2; n <= 6; n++ {
		for _, place := range staircase(n) {
			for size := 1; size <= 6; size++ {
				_, ok := impl.DreamWord(size, []impl.Cell{place})
				is(t, text("DreamWord of", size, place), text(ok), text(place.Row+place.Col <= size-2))
			}
		}
	}
}

func TestBottomDream(t *testing.T) {
	is(t, "BottomDream of 1432", text(impl.BottomDream(perm("1432"))), text(cells("10 11 20")))
	is(t, "BottomDream of 3142", text(impl.BottomDream(perm("3142"))), text(cells("00 01 20")))
	for n := 1; n <= 6; n++ {
		is(t, text("BottomDream of the identity of", n), text(impl.BottomDream(ascending(n))), "[]")
		is(t, text("BottomDream of the longest of", n), text(impl.BottomDream(impl.LongestPerm(n))), text(staircase(n)))
		for _, w := range permsOf(n) {
			dream := impl.BottomDream(w)
			is(t, text("DreamPerm of BottomDream of", w), text(impl.DreamPerm(n, dream)), text(w, true))
			counts := make([]int, n)
			for _, c := range dream {
				isTrue(t, text("BottomDream of", w, "has no gap before", c), c.Col == counts[c.Row])
				counts[c.Row]++
			}
			is(t, text("the rows of BottomDream of", w), text(counts), text(impl.CodeOf(w)))
		}
	}
}

func TestPipeDreams(t *testing.T) {
	is(t, "PipeDreams of 132", text(impl.PipeDreams(perm("132"))), text([][]impl.Cell{cells("01"), cells("10")}, true))
	is(t, "PipeDreams of 1432", text(impl.PipeDreams(perm("1432"))), text([][]impl.Cell{cells("01 02 11"), cells("01 02 20"), cells("01 10 11"), cells("02 10 20"), cells("10 11 20")}, true))
	for n := 1; n <= 6; n++ {
		is(t, text("PipeDreams of the identity of", n), text(impl.PipeDreams(ascending(n))), "[[]] true")
		is(t, text("PipeDreams of the longest of", n), text(impl.PipeDreams(impl.LongestPerm(n))), text([][]impl.Cell{staircase(n)}, true))
		dreams := reducedDreams(n)
		for _, w := range permsOf(n) {
			is(t, text("PipeDreams of", w), text(impl.PipeDreams(w)), text(dreams[text(w)], true))
		}
	}
}

// TestPipeDreamsByLadderMoves: all of them come of the bottom one, and nothing else
// comes of it.
func TestPipeDreamsByLadderMoves(t *testing.T) {
	for n := 1; n <= 6; n++ {
		for _, w := range permsOf(n) {
			found := [][]impl.Cell{impl.BottomDream(w)}
			known := map[string]bool{text(found[0]): true}
			for i := 0; i < len(found); i++ {
				for _, dream := range impl.LadderMoves(n, found[i]) {
					if !known[text(dream)] {
						known[text(dream)] = true
						found = append(found, dream)
					}
				}
			}
			slices.SortFunc(found, compareCellLists)
			is(t, text("what comes of BottomDream of", w), text(found, true), text(impl.PipeDreams(w)))
		}
	}
}

// TestPipeDreamsAreCounted: with 1 for all variables, a Schubert polynomial counts
// dreams. No permutation of at most 6 has more than 84, so none has more than
// MaxDreams.
func TestPipeDreamsAreCounted(t *testing.T) {
	for n, want := range []int{1, 1, 2, 5, 14, 84} {
		most := 0
		for _, w := range permsOf(n + 1) {
			dreams, ok := impl.PipeDreams(w)
			isTrue(t, text("PipeDreams of", w), ok)
			is(t, text("the number of PipeDreams of", w), text(len(dreams)), text(impl.EvaluatePoly(schubert(t, w), repeated(1, 7))))
			most = max(most, len(dreams))
		}
		is(t, text("the greatest number of dreams of", n+1), text(most), text(want))
	}
}

func TestDreamsOfSeven(t *testing.T) {
	for _, w := range [][]int{ascending(7), impl.LongestPerm(7), perm("2134567"), perm("1327654"), perm("1234576")} {
		is(t, text("BottomDream of", w), text(impl.BottomDream(w)), "[]")
		is(t, text("PipeDreams of", w), text(impl.PipeDreams(w)), "[] false")
	}
	is(t, "BottomDream of 213456", text(impl.BottomDream(perm("213456"))), text(cells("00")))
	is(t, "PipeDreams of 213456", text(impl.PipeDreams(perm("213456"))), text([][]impl.Cell{cells("00")}, true))
}

// movesOf looks for ladder moves of a dream in the words of the definition: with
// all crosses, and all rows above.
func movesOf(dream []impl.Cell) [][]impl.Cell {
	has := map[impl.Cell]bool{}
	for _, c := range dream {
		has[c] = true
	}
	pair := func(i, j int) int {
		count := 0
		for _, c := range []impl.Cell{{Row: i, Col: j}, {Row: i, Col: j + 1}} {
			if has[c] {
				count++
			}
		}
		return count
	}
	var moves [][]impl.Cell
	for _, c := range dream {
		for m := 1; m <= c.Row; m++ {
			fits := pair(c.Row, c.Col) == 1 && pair(c.Row-m, c.Col) == 0
			for k := 1; k < m; k++ {
				fits = fits && pair(c.Row-k, c.Col) == 2
			}
			if fits {
				moved := slices.DeleteFunc(slices.Clone(dream), func(d impl.Cell) bool { return d == c })
				moved = append(moved, impl.Cell{Row: c.Row - m, Col: c.Col + 1})
				slices.SortFunc(moved, compareCells)
				moves = append(moves, moved)
			}
		}
	}
	slices.SortFunc(moves, compareCellLists)
	return moves
}

func TestLadderMoves(t *testing.T) {
	for _, c := range []struct {
		n       int
		crosses string
		want    []string
	}{
		{1, "", nil}, {6, "", nil}, {2, "00", nil}, {3, "10", []string{"01"}}, {3, "00 10", nil}, {3, "01 10", nil}, {4, "10 20", []string{"01 20"}}, {4, "01 20", []string{"01 11"}}, {4, "10 11 20", []string{"01 10 11", "02 10 20"}},
		{5, "10 11 20", []string{"01 10 11", "02 10 20"}}, {4, "00 10 11 20", []string{"00 02 10 20"}}, {4, "00 01 10 11 20", nil}, {6, "10 30", []string{"01 30", "10 21"}}, {5, "10 11 20 21 30", []string{"01 10 11 20 21", "02 10 20 21 30"}},
	} {
		want := make([][]impl.Cell, len(c.want))
		for i, s := range c.want {
			want[i] = cells(s)
		}
		is(t, text("LadderMoves of", c.n, c.crosses), text(impl.LadderMoves(c.n, cells(c.crosses))), text(want))
	}
}

func TestLadderMovesAreAsDefined(t *testing.T) {
	for n := 1; n <= 6; n++ {
		for i, dream := range allDreams(n) {
			if n < 6 || i%5 == 0 {
				is(t, text("LadderMoves of", n, dream), text(impl.LadderMoves(n, dream)), text(movesOf(dream)))
			}
		}
	}
}

func TestLadderMovesKeepPermutations(t *testing.T) {
	for n := 1; n <= 5; n++ {
		for _, w := range permsOf(n) {
			dreams, _ := impl.PipeDreams(w)
			for _, dream := range dreams {
				for _, moved := range impl.LadderMoves(n, dream) {
					is(t, text("DreamPerm of", moved), text(impl.DreamPerm(n, moved)), text(w, true))
				}
			}
		}
	}
}
