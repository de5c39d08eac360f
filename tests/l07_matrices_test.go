package tests

import (
	"math"
	"math/rand/v2"
	"slices"
	"testing"

	"loop.example/g03113/impl"
)

func TestLimitsOfFlags(t *testing.T) {
	is(t, "MaxSpaces", text(impl.MaxSpaces), "400")
	is(t, "Matrix", text(impl.Matrix{P: 2, Rows: 1, Cols: 3, Data: []int{1, 0, 1}}), "{2 1 3 [1 0 1]}")
}

func TestMatrixOk(t *testing.T) {
	for _, p := range primes() {
		for count := range 8 {
			for cols := 1; cols <= 7; cols++ {
				m := zeros(p, count, cols)
				isTrue(t, text("MatrixOk of", m), impl.MatrixOk(m))
				for i := range m.Data {
					m.Data[i] = p - 1
					isTrue(t, text("MatrixOk of", m), impl.MatrixOk(m))
					for _, x := range []int{p, -1} {
						m.Data[i] = x
						isFalse(t, text("MatrixOk of", m), impl.MatrixOk(m))
					}
					m.Data[i] = i % p
				}
				m.Data = append(m.Data, 0)
				isFalse(t, text("MatrixOk of", m), impl.MatrixOk(m))
				if count > 0 {
					m.Data = m.Data[:count*cols-1]
					isFalse(t, text("MatrixOk of", m), impl.MatrixOk(m))
				}
			}
		}
	}
	for _, m := range notMatrices() {
		isFalse(t, "MatrixOk of "+brief(m.P, m.Rows, m.Cols, m.Data), impl.MatrixOk(m))
	}
}

// TestNotMatrices asks all functions that take one.
func TestNotMatrices(t *testing.T) {
	for _, m := range notMatrices() {
		what := " of " + brief(m.P, m.Rows, m.Cols, m.Data)
		for _, at := range []int{0, 1, -1, m.Rows, m.Cols} {
			is(t, "CornerRank"+what, text(impl.CornerRank(m, at, at), impl.CornerRank(m, 0, at), impl.CornerRank(m, at, 0)), "-1 -1 -1")
		}
		is(t, "RankOf"+what, text(impl.RankOf(m)), "-1")
		is(t, "SpanOf"+what, text(impl.SpanOf(m)), "{0 0 0 []}")
		is(t, "SpaceString"+what, text(impl.SpaceString(m)), "[]")
		is(t, "NormalFlag"+what, text(impl.NormalFlag(m)), "{0 0 0 []} false")
		is(t, "FlagPerm"+what, text(impl.FlagPerm(m)), "[]")
		is(t, "IsSpace, FlagOk"+what, text(impl.IsSpace(m), impl.FlagOk(m)), "false false")
		for _, good := range []impl.Matrix{m, onesAt(2, 1, []int{0}), noRows(2, 2), onesAt(3, 2, []int{0, 1}), {P: m.P, Rows: 1, Cols: 1, Data: []int{1}}} {
			is(t, "MulMatrices"+what, text(impl.MulMatrices(m, good)), "{0 0 0 []} false")
			is(t, "MulMatrices, as the second one,"+what, text(impl.MulMatrices(good, m)), "{0 0 0 []} false")
			is(t, "SumSpaces"+what, text(impl.SumSpaces(m, good)), "{0 0 0 []} false")
			is(t, "SumSpaces, as the second one,"+what, text(impl.SumSpaces(good, m)), "{0 0 0 []} false")
			is(t, "MeetSpaces"+what, text(impl.MeetSpaces(m, good)), "{0 0 0 []} false")
			is(t, "MeetSpaces, as the second one,"+what, text(impl.MeetSpaces(good, m)), "{0 0 0 []} false")
			is(t, "RelativePosition"+what, text(impl.RelativePosition(m, good), impl.RelativePosition(good, m)), "[] []")
			is(t, "PositionOf"+what, text(impl.PositionOf(m, good), impl.PositionOf(good, m)), "[] []")
			is(t, "MeetsFlag"+what, text(impl.MeetsFlag(m, good, nil), impl.MeetsFlag(good, m, nil)), "false false")
		}
		for _, w := range [][]int{{0}, {0, 1}, {2, 1, 0}} {
			is(t, "KeepsRanks, KeepsEssential"+what, text(impl.KeepsRanks(m, w), impl.KeepsEssential(m, w)), "false false")
		}
	}
}

func TestPermMatrixOfFew(t *testing.T) {
	isMatrix(t, "PermMatrix of 1 0", impl.PermMatrix(2, []int{1, 0}), matrix(2, "0 1, 1 0"))
	isMatrix(t, "PermMatrix of 1 2 0", impl.PermMatrix(7, []int{1, 2, 0}), matrix(7, "0 1 0, 0 0 1, 1 0 0"))
	isMatrix(t, "PermMatrix of 0", impl.PermMatrix(5, []int{0}), matrix(5, "1"))
}

// TestPermMatrix: the ranks of the corners are those of the permutation, and products are
// products, read from the other side.
func TestPermMatrix(t *testing.T) {
	for i, w := range somePerms() {
		p := primes()[i%4]
		m := impl.PermMatrix(p, w)
		isMatrix(t, text("PermMatrix of", p, w), m, onesAt(p, len(w), w))
		isTrue(t, text("FlagOk of PermMatrix of", p, w), impl.FlagOk(m))
		for r := range len(w) + 1 {
			for c := range len(w) + 1 {
				is(t, text("CornerRank of PermMatrix of", p, w, "at", r, c), text(impl.CornerRank(m, r, c)), text(impl.RankAt(w, r, c)))
			}
		}
		if i%7 == 0 {
			for _, p := range notPrimes() {
				is(t, text("PermMatrix of", p, w), text(impl.PermMatrix(p, w)), "{0 0 0 []}")
			}
		}
	}
	for _, u := range permsOf(4) {
		for _, v := range permsOf(4) {
			got, ok := impl.MulMatrices(impl.PermMatrix(3, u), impl.PermMatrix(3, v))
			is(t, text("MulMatrices of PermMatrix of", u, v), text(got, ok), text(impl.PermMatrix(3, impl.ComposePerms(v, u)), true))
		}
	}
	for _, w := range notPerms() {
		for _, p := range primes() {
			is(t, "PermMatrix of "+brief(p, w), text(impl.PermMatrix(p, w)), "{0 0 0 []}")
		}
	}
}

func TestMulMatricesOfFew(t *testing.T) {
	for _, c := range []struct {
		p          int
		a, b, want string
	}{
		{7, "1 2, 3 4", "5 6, 0 1", "5 1, 1 1"}, {2, "1 1", "1, 1", "0"}, {3, "1, 2", "2 1 0", "2 1 0, 1 2 0"}, {5, "4", "4", "1"}, {5, "0 0", "1 2, 3 4", "0 0"}, {7, "6 6 6 6 6 6 6", "6, 6, 6, 6, 6, 6, 5", "1"},
	} {
		got, ok := impl.MulMatrices(matrix(c.p, c.a), matrix(c.p, c.b))
		is(t, text("MulMatrices of", c.a, "and", c.b, "modulo", c.p), text(got, ok), text(matrix(c.p, c.want), true))
	}
}

func TestMulMatrices(t *testing.T) {
	source := rand.New(rand.NewPCG(7, 1))
	for count := range 8 {
		for inner := 1; inner <= 7; inner++ {
			for cols := 1; cols <= 7; cols++ {
				p := primes()[(count+inner+cols)%4]
				a, b := randomMatrix(source, p, count, inner), randomMatrix(source, p, inner, cols)
				got, ok := impl.MulMatrices(a, b)
				is(t, text("MulMatrices of", a, b), text(got, ok), text(timesMatrix(a, b), true))
				for _, wrong := range []impl.Matrix{randomMatrix(source, p, inner-1, cols), randomMatrix(source, p, inner%7+1, cols), noRows(p, cols), randomMatrix(source, primes()[(count+inner+cols+1)%4], inner, cols)} {
					if wrong.P != p || wrong.Rows != inner {
						is(t, text("MulMatrices of", a, wrong), text(impl.MulMatrices(a, wrong)), "{0 0 0 []} false")
					}
				}
			}
		}
	}
	for range 40 {
		a, b, c := randomMatrix(source, 5, 3, 4), randomMatrix(source, 5, 4, 7), randomMatrix(source, 5, 7, 2)
		ab, _ := impl.MulMatrices(a, b)
		bc, _ := impl.MulMatrices(b, c)
		is(t, text("MulMatrices of", a, b, c), text(impl.MulMatrices(ab, c)), text(impl.MulMatrices(a, bc)))
		is(t, text("MulMatrices of", a, "and the unit"), text(impl.MulMatrices(a, impl.PermMatrix(5, ascending(4)))), text(a, true))
	}
}

func TestRanksOfFew(t *testing.T) {
	for _, c := range []struct {
		p    int
		m    string
		want int
	}{
		{3, "1 2, 2 1", 1}, {5, "1 2, 2 1", 2}, {2, "0", 0}, {7, "0 0 0, 0 0 0", 0}, {2, "1 1 0, 0 1 1, 1 0 1", 2}, {3, "1 1 0, 0 1 1, 1 0 1", 3}, {7, "3, 5, 0, 1", 1}, {5, "0 4, 0 2", 1}, {5, "0 4, 3 2", 2}, {7, "1 2 3, 1 2 3, 1 2 3", 1}, {7, "0 0, 1 2, 0 0, 2 4, 2 5", 2}, {2, "1 0 0 0 0 0 0, 0 1 0 0 0 0 0, 0 0 1 0 0 0 0, 0 0 0 1 0 0 0, 0 0 0 0 1 0 0, 0 0 0 0 0 1 0, 0 0 0 0 0 0 1", 7},
	} {
		is(t, text("RankOf of", c.m, "modulo", c.p), text(impl.RankOf(matrix(c.p, c.m))), text(c.want))
	}
	for _, p := range primes() {
		for cols := 1; cols <= 7; cols++ {
			is(t, text("RankOf of no rows of", cols), text(impl.RankOf(noRows(p, cols)), impl.CornerRank(noRows(p, cols), 0, cols), impl.CornerRank(noRows(p, cols), 0, 0)), "0 0 0")
		}
	}
	m := matrix(3, "0 1 2, 0 2 1, 1 1 1")
	is(t, "CornerRank of few", text(impl.CornerRank(m, 2, 3), impl.CornerRank(m, 3, 1), impl.CornerRank(m, 2, 1), impl.CornerRank(m, 3, 2), impl.CornerRank(m, 3, 3), impl.CornerRank(m, 0, 3), impl.CornerRank(m, 3, 0), impl.CornerRank(m, 1, 2)), "1 1 0 2 2 0 0 1")
}

// checkCorners holds the ranks of all corners against the numbers of sums of their rows.
func checkCorners(t *testing.T, m impl.Matrix) {
	t.Helper()
	is(t, text("RankOf of", m), text(impl.RankOf(m)), text(sumsOf(m).dimension(m.P)))
	for r := range m.Rows + 1 {
		is(t, text("CornerRank of", m, "at", r, 0), text(impl.CornerRank(m, r, 0)), "0")
		for c := 1; c <= m.Cols; c++ {
			is(t, text("CornerRank of", m, "at", r, c), text(impl.CornerRank(m, r, c)), text(sumsOf(cornerOf(m, r, c)).dimension(m.P)))
		}
	}
}

func TestRanksOfCorners(t *testing.T) {
	for _, m := range slices.Concat(allMatrices(2, 3, 3), allMatrices(3, 2, 2), allMatrices(3, 3, 1), allMatrices(5, 1, 3), allMatrices(7, 2, 1)) {
		checkCorners(t, m)
	}
	source := rand.New(rand.NewPCG(7, 2))
	for _, size := range smallSizes() {
		for range 4 {
			checkCorners(t, randomMatrix(source, size.p, source.IntN(8), size.n))
			m := randomMatrix(source, size.p, 7, size.n)
			copy(m.Data[3*size.n:], m.Data[:2*size.n])
			checkCorners(t, m)
		}
	}
}

// partialPerms returns all choices of a column for some of the rows, no two alike.
func partialPerms(n int) [][]int {
	var all [][]int
	for _, columns := range wordsOf(n+1, n) {
		for i := range columns {
			columns[i]--
		}
		chosen := slices.DeleteFunc(slices.Clone(columns), func(j int) bool { return j < 0 })
		slices.Sort(chosen)
		if count := len(chosen); len(slices.Compact(chosen)) == count {
			all = append(all, columns)
		}
	}
	return all
}

// onesBefore counts the ones of a partial permutation in a corner.
func onesBefore(columns []int, r int, c int) int {
	count := 0
	for _, j := range columns[:r] {
		if j >= 0 && j < c {
			count++
		}
	}
	return count
}

// somePartial returns partial permutations of large sizes.
func somePartial(source *rand.Rand, n int) []int {
	columns := source.Perm(n)
	for i := range columns {
		if source.IntN(4) == 0 {
			columns[i] = -1
		}
	}
	return columns
}

// TestRanksOfLargeCorners: what is done to rows by rows before them, and to columns by
// columns before them, changes no rank.
func TestRanksOfLargeCorners(t *testing.T) {
	source := rand.New(rand.NewPCG(7, 3))
	for i := range 80 {
		n := 4 + i%4
		columns := somePartial(source, n)
		m := between(source, onesAt(primes()[i/4%4], n, columns))
		is(t, text("RankOf of", m), text(impl.RankOf(m)), text(onesBefore(columns, n, n)))
		is(t, text("RankOf of", m, "with rows and columns exchanged"), text(impl.RankOf(transposedMatrix(m))), text(onesBefore(columns, n, n)))
		for r := range n + 1 {
			for c := range n + 1 {
				is(t, text("CornerRank of", m, "at", r, c), text(impl.CornerRank(m, r, c)), text(onesBefore(columns, r, c)))
			}
		}
	}
}

func TestCornersOutside(t *testing.T) {
	for _, m := range []impl.Matrix{matrix(2, "1"), matrix(3, "1 2, 2 1"), matrix(5, "1 2 3, 0 1 0"), noRows(7, 3), zeros(2, 7, 7), zeros(2, 7, 1)} {
		for _, r := range append(sizesOutside(), m.Rows+1, 8) {
			for c := range m.Cols + 1 {
				is(t, text("CornerRank of", m, "at", r, c), text(impl.CornerRank(m, r, c)), "-1")
			}
		}
		for _, c := range append(sizesOutside(), m.Cols+1, 8) {
			for r := range m.Rows + 1 {
				is(t, text("CornerRank of", m, "at", r, c), text(impl.CornerRank(m, r, c)), "-1")
			}
		}
	}
}

func TestKeepsRanksOfFew(t *testing.T) {
	for _, c := range []struct {
		p    int
		m, w string
		want bool
	}{
		{3, "1 0, 0 1", "0 1", true}, {3, "1 0, 0 1", "1 0", false}, {3, "0 1, 1 0", "1 0", true}, {3, "0 1, 1 0", "0 1", true}, {3, "0 2, 0 1", "1 0", true}, {3, "2 2, 1 1", "1 0", false}, {3, "0 0, 0 0", "1 0", true}, {5, "3", "0", true}, {5, "0", "0", true},
		{2, "1 0 0, 0 0 1, 0 1 0", "0 2 1", true}, {2, "1 1 0, 1 1 1, 0 1 0", "0 2 1", true}, {2, "1 1 0, 0 1 1, 0 1 0", "0 2 1", false}, {2, "0 0 0, 0 0 0, 1 1 1", "2 1 0", true}, {2, "0 0 1, 0 1 1, 1 0 0", "2 1 0", true}, {2, "0 0 0, 1 0 0, 0 0 1", "2 1 0", false},
		{7, "0 1 2, 0 3 6, 0 0 1", "1 0 2", true}, {7, "0 1 2, 1 3 6, 0 0 1", "1 0 2", true}, {7, "1 1 2, 0 3 6, 0 0 1", "1 0 2", false},
	} {
		m, w := matrix(c.p, c.m), numbers(c.w)
		is(t, text("KeepsRanks, KeepsEssential of", m, w), text(impl.KeepsRanks(m, w), impl.KeepsEssential(m, w)), text(c.want, c.want))
	}
}

// keepsAll asks for the ranks of all corners, which are known as a partial permutation.
func keepsAll(columns []int, w []int) bool {
	for r := range len(w) + 1 {
		for c := range len(w) + 1 {
			if onesBefore(columns, r, c) > rankOf(w, r, c) {
				return false
			}
		}
	}
	return true
}

func checkKeeps(t *testing.T, m impl.Matrix, w []int, want bool) {
	t.Helper()
	if all, essential := impl.KeepsRanks(m, w), impl.KeepsEssential(m, w); all != want || essential != want {
		t.Errorf("KeepsRanks, KeepsEssential of %v, %v: %v, %v, want %v", m, w, all, essential, want)
	}
}

// TestRanksAtEssentialCellsDecide takes matrices whose ranks are known. Any of the essential
// cells may be the only one at which a rank is too great.
func TestRanksAtEssentialCellsDecide(t *testing.T) {
	source := rand.New(rand.NewPCG(7, 4))
	kept := 0
	for n := 1; n <= 4; n++ {
		for i, columns := range partialPerms(n) {
			m := between(source, onesAt(primes()[i%4], n, columns))
			for _, w := range permsOf(n) {
				want := keepsAll(columns, w)
				checkKeeps(t, m, w, want)
				kept += btoi(want)
			}
		}
	}
	isTrue(t, "there are many that keep the ranks", kept > 500)
	for i := range 4000 {
		n := 5 + i%3
		columns := somePartial(source, n)
		w := source.Perm(n)
		if i%2 == 0 { // a few exchanges keep most of the ranks
			w = slices.Clone(columns)
			fillUp(w)
			w = exchanged(w, source.IntN(n), source.IntN(n))
		}
		checkKeeps(t, between(source, onesAt(primes()[i/4%4], n, columns)), w, keepsAll(columns, w))
	}
}

// fillUp puts the columns that are missing in the place of each -1, the last one first.
func fillUp(columns []int) {
	for j := range columns {
		if !slices.Contains(columns, j) {
			columns[len(columns)-1-slices.Index(reversed(columns), -1)] = j
		}
	}
}

// TestRanksAtEssentialCellsDecideForAll takes all matrices of small sizes.
func TestRanksAtEssentialCellsDecideForAll(t *testing.T) {
	for _, m := range slices.Concat(allMatrices(2, 2, 2), allMatrices(2, 3, 3), allMatrices(3, 2, 2), allMatrices(5, 2, 2)) {
		for _, w := range permsOf(m.Rows) {
			want := true
			for r := range m.Rows + 1 {
				for c := 1; c <= m.Cols; c++ {
					want = want && sumsOf(cornerOf(m, r, c)).dimension(m.P) <= rankOf(w, r, c)
				}
			}
			checkKeeps(t, m, w, want)
		}
	}
}

// TestKeptRanksOfPerms: the matrix of a permutation keeps the ranks of those below it.
func TestKeptRanksOfPerms(t *testing.T) {
	for n := 1; n <= 4; n++ {
		for _, u := range permsOf(n) {
			for _, w := range permsOf(n) {
				checkKeeps(t, impl.PermMatrix(5, u), w, impl.IsBelowPerm(w, u))
			}
		}
	}
	for _, w := range somePerms() {
		n := len(w)
		checkKeeps(t, impl.PermMatrix(2, w), w, true)
		checkKeeps(t, zeros(3, n, n), w, true)
		checkKeeps(t, impl.PermMatrix(3, ascending(n)), w, impl.LengthOf(w) == 0)
		checkKeeps(t, impl.PermMatrix(7, impl.LongestPerm(n)), w, true)
	}
}

func TestKeepsRanksOutside(t *testing.T) {
	for n := 1; n <= 7; n++ {
		good := zeros(5, n, n)
		for _, w := range append(notPerms(), impl.LongestPerm(n-1), impl.LongestPerm(n+1), impl.IdentityPerm(n-1), impl.IdentityPerm(n+1)) {
			is(t, "KeepsRanks, KeepsEssential of zeros and "+brief(n, w), text(impl.KeepsRanks(good, w), impl.KeepsEssential(good, w)), "false false")
		}
		for _, m := range []impl.Matrix{noRows(2, n), zeros(2, n-1, n), zeros(3, n, n%7+1), zeros(7, n%7+1, n), zeros(2, n%7+1, n%7+1), {P: 4, Rows: n, Cols: n, Data: make([]int, n*n)}, {P: 3, Rows: n, Cols: n, Data: make([]int, n*n-1)}} {
			if m.Rows == n && m.Cols == n && impl.MatrixOk(m) {
				continue
			}
			for _, w := range [][]int{ascending(n), impl.LongestPerm(n)} {
				is(t, text("KeepsRanks, KeepsEssential of", m, w), text(impl.KeepsRanks(m, w), impl.KeepsEssential(m, w)), "false false")
			}
		}
	}
	big := zeros(2, 7, 7)
	big.Data[3] = math.MaxInt
	is(t, "KeepsRanks, KeepsEssential of a number that is too great", text(impl.KeepsRanks(big, ascending(7)), impl.KeepsEssential(big, ascending(7))), "false false")
}
