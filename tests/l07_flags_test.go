package tests

import (
	"math/rand/v2"
	"slices"
	"testing"

	"loop.example/g03113/impl"
)

func TestFlagsOfFew(t *testing.T) {
	for _, c := range []struct {
		p               int
		m, normal, perm string
	}{
		{3, "2 1, 1 1", "1 2, 0 1", "0 1"}, {2, "0 1, 1 1", "0 1, 1 0", "1 0"}, {5, "0 0 2, 0 3 4, 4 1 1", "0 0 1, 0 1 0, 1 0 0", "2 1 0"}, {7, "1 2, 3 4", "1 2, 0 1", "0 1"}, {7, "6", "1", "0"}, {2, "1", "1", "0"},
		{2, "1 1 0, 1 0 1, 0 0 1", "1 1 0, 0 1 1, 0 0 1", "0 1 2"}, {2, "1 1 0, 0 1 1, 0 0 1", "1 1 0, 0 1 1, 0 0 1", "0 1 2"}, {3, "0 1 1, 1 0 2, 0 1 0", "0 1 1, 1 0 2, 0 0 1", "1 0 2"}, {3, "0 1 1, 1 1 0, 0 1 0", "0 1 1, 1 0 2, 0 0 1", "1 0 2"}, {5, "0 1, 1 2", "0 1, 1 0", "1 0"}, {5, "1 0, 1 1", "1 0, 0 1", "0 1"},
		{2, "1 0 0, 1 1 0, 1 1 1", "1 0 0, 0 1 0, 0 0 1", "0 1 2"}, {3, "0 0 1, 1 0 0, 0 1 0", "0 0 1, 1 0 0, 0 1 0", "2 0 1"}, {3, "0 0 1, 1 0 1, 0 1 1", "0 0 1, 1 0 0, 0 1 0", "2 0 1"},
	} {
		m := matrix(c.p, c.m)
		normal, ok := impl.NormalFlag(m)
		is(t, text("NormalFlag of", c.m, "modulo", c.p), text(normal, ok), text(matrix(c.p, c.normal), true))
		is(t, text("FlagPerm of", c.m, "modulo", c.p), text(impl.FlagPerm(m)), text(numbers(c.perm)))
		isTrue(t, text("FlagOk of", c.m, "modulo", c.p), impl.FlagOk(m))
	}
	for _, m := range []impl.Matrix{matrix(2, "0"), matrix(3, "1 2, 2 1"), matrix(2, "1 1, 1 1"), matrix(5, "1 2, 0 0"), matrix(5, "1 0"), matrix(5, "1, 2"), matrix(2, "1 0 0, 0 1 0"), matrix(2, "1 0, 0 1, 1 1"), noRows(2, 1), noRows(7, 7), zeros(2, 7, 7), matrix(2, "1 1 0, 0 1 1, 1 0 1"), zeros(3, 7, 1)} {
		checkNoFlag(t, m)
	}
}

func checkNoFlag(t *testing.T, m impl.Matrix) {
	t.Helper()
	is(t, text("FlagOk, FlagPerm of", m), text(impl.FlagOk(m), impl.FlagPerm(m)), "false []")
	is(t, text("NormalFlag of", m), text(impl.NormalFlag(m)), "{0 0 0 []} false")
}

// checkFlag holds the members of the normal form against those of a flag.
func checkFlag(t *testing.T, m impl.Matrix) {
	t.Helper()
	what := text("NormalFlag of", m)
	normal, ok := impl.NormalFlag(m)
	if !ok || normal.P != m.P || !impl.MatrixOk(normal) || !isNormal(normal) || !impl.FlagOk(m) || !impl.FlagOk(normal) {
		t.Errorf("%s is none: %v", what, normal)
		return
	}
	of := membersOf(normal)
	for i, member := range membersOf(m) {
		isTrue(t, text(what, "has the same member", i), member.same(of[i]))
	}
	is(t, text("FlagPerm of", m), text(impl.FlagPerm(m)), text(firstsOf(normal)))
	is(t, what+", twice", text(impl.NormalFlag(normal)), text(normal, true))
	if isNormal(m) {
		isMatrix(t, what, normal, m)
	}
}

// TestFlags takes all square matrices of small sizes. The rest of the numbers of flags is
// that of flags in normal form.
func TestFlags(t *testing.T) {
	for _, c := range []struct{ p, n, flags, normal int }{{2, 1, 1, 1}, {2, 2, 6, 3}, {2, 3, 168, 21}, {3, 1, 2, 1}, {3, 2, 48, 4}, {5, 1, 4, 1}, {5, 2, 480, 6}, {7, 1, 6, 1}, {7, 2, 2016, 8}} {
		flags, normal := 0, 0
		for _, m := range allMatrices(c.p, c.n, c.n) {
			if len(sumsOf(m)) < power(c.p, c.n) {
				checkNoFlag(t, m)
				continue
			}
			checkFlag(t, m)
			flags++
			normal += btoi(isNormal(m))
		}
		is(t, text("numbers of flags of", c.p, c.n), text(flags, normal), text(c.flags, c.normal))
	}
	source := rand.New(rand.NewPCG(7, 10))
	for _, size := range smallSizes() {
		for range 8 {
			checkFlag(t, randomFlag(source, size.p, size.n))
		}
	}
}

// TestLargeFlags: what is done to rows by rows before them does not change the normal
// form.
func TestLargeFlags(t *testing.T) {
	source := rand.New(rand.NewPCG(7, 11))
	for i := range 160 {
		p, n := primes()[i%4], 4+i%4
		w := source.Perm(n)
		m := randomNormal(source, p, w)
		moved := timesMatrix(randomLower(source, p, n), m)
		is(t, text("NormalFlag of", moved), text(impl.NormalFlag(moved)), text(m, true))
		is(t, text("NormalFlag of", m), text(impl.NormalFlag(m)), text(m, true))
		is(t, text("FlagPerm of", moved), text(impl.FlagPerm(moved), impl.FlagPerm(m)), text(w, w))
		lost := moved
		lost.Data = slices.Clone(moved.Data)
		copy(lost.Data[(n-1)*n:], moved.Data[source.IntN(n-1)*n:][:n])
		checkNoFlag(t, lost)
		checkNoFlag(t, firstRows(moved, n-1))
	}
}

// randomNormal returns a flag in normal form whose rows begin at the places of w.
func randomNormal(source *rand.Rand, p int, w []int) impl.Matrix {
	n := len(w)
	m := onesAt(p, n, w)
	for i := range n {
		for _, j := range w[i+1:] {
			if j > w[i] {
				m.Data[i*n+j] = source.IntN(p)
			}
		}
	}
	return m
}

func TestFlagsWithFew(t *testing.T) {
	for _, c := range []struct {
		p       int
		w, want string
	}{
		{2, "0 1", "1 0, 0 1; 1 1, 0 1"}, {7, "1 0", "0 1, 1 0"}, {5, "0", "1"}, {3, "1 0 2", "0 1 0, 1 0 0, 0 0 1; 0 1 0, 1 0 1, 0 0 1; 0 1 0, 1 0 2, 0 0 1; 0 1 1, 1 0 0, 0 0 1; 0 1 1, 1 0 1, 0 0 1; 0 1 1, 1 0 2, 0 0 1; 0 1 2, 1 0 0, 0 0 1; 0 1 2, 1 0 1, 0 0 1; 0 1 2, 1 0 2, 0 0 1"}, {2, "2 0 1", "0 0 1, 1 0 0, 0 1 0; 0 0 1, 1 1 0, 0 1 0"}, {2, "1 2 0", "0 1 0, 0 0 1, 1 0 0; 0 1 1, 0 0 1, 1 0 0"},
	} {
		is(t, text("FlagsWith", c.p, c.w), text(impl.FlagsWith(c.p, numbers(c.w))), text(matrices(c.p, c.want), true))
	}
}

// TestFlagsWith: there are as many different flags with a permutation as a power of p
// says. All powers up to MaxSpaces occur.
func TestFlagsWith(t *testing.T) {
	lengths := map[int]bool{}
	for _, w := range somePerms() {
		for _, p := range primes() {
			l, ok := impl.FlagsWith(p, w)
			lengths[len(l)] = true
			checkListed(t, text("FlagsWith", p, w), l, ok, p, len(w)*(len(w)-1)/2-inversionsOf(w), func(m impl.Matrix) bool {
				return isNormal(m) && slices.Equal(firstsOf(m), w) && slices.Equal(impl.FlagPerm(m), w)
			})
		}
	}
	is(t, "lengths of lists, with that of none", text(len(lengths)), "21")
}

// TestFlagsWithAreAll goes by the definition. For larger sizes, the numbers for all
// permutations add up to the product of those of the first rows, the second ones..
func TestFlagsWithAreAll(t *testing.T) {
	for _, size := range []struct{ p, n int }{{2, 1}, {2, 2}, {2, 3}, {2, 4}, {3, 2}, {3, 3}, {5, 2}, {7, 2}} {
		byPerm := map[string][]impl.Matrix{}
		for _, m := range allNormal(size.p, size.n) {
			w := text(firstsOf(m))
			byPerm[w] = append(byPerm[w], m)
		}
		for _, w := range permsOf(size.n) {
			is(t, text("FlagsWith", size.p, w), text(impl.FlagsWith(size.p, w)), text(byPerm[text(w)], true))
		}
	}
	for _, size := range []struct{ p, n int }{{2, 4}, {3, 3}, {5, 3}, {7, 3}} {
		count, product := 0, 1
		for _, w := range permsOf(size.n) {
			l, ok := impl.FlagsWith(size.p, w)
			isTrue(t, text("FlagsWith", size.p, w, "succeeds"), ok)
			count += len(l)
		}
		for k := 1; k <= size.n; k++ {
			product *= impl.CountSpaces(size.p, 1, k)
		}
		is(t, text("flags in normal form of", size), text(count), text(product))
	}
}

func TestFlagsWithOutside(t *testing.T) {
	for _, p := range notPrimes() {
		for _, w := range [][]int{{0}, {1, 0}, {0, 1, 2}, ascending(7)} {
			is(t, text("FlagsWith", p, w), text(impl.FlagsWith(p, w)), "[] false")
		}
	}
	for _, p := range primes() {
		for _, w := range notPerms() {
			is(t, "FlagsWith "+brief(p, w), text(impl.FlagsWith(p, w)), "[] false")
		}
		is(t, text("FlagsWith", p, "of 7"), text(impl.FlagsWith(p, ascending(7))), "[] false")
		last, ok := impl.FlagsWith(p, reversed(ascending(7)))
		is(t, text("FlagsWith", p, "the longest one"), text(last, ok), text([]impl.Matrix{onesAt(p, 7, reversed(ascending(7)))}, true))
	}
}

func TestRelativePositionOfFew(t *testing.T) {
	for _, c := range []struct {
		p          int
		a, b, want string
	}{
		{3, "0 1, 1 0", "1 0, 0 1", "1 0"}, {3, "1 0, 0 1", "1 0, 0 1", "0 1"}, {2, "1 1, 0 1", "1 0, 0 1", "1 0"}, {2, "1 1, 0 1", "1 1, 1 0", "0 1"}, {5, "2 3, 1 1", "4 1, 0 2", "0 1"}, {7, "1", "3", "0"},
		{2, "0 1 0, 0 0 1, 1 0 0", "1 0 0, 0 1 0, 0 0 1", "1 2 0"}, {2, "1 0 0, 0 1 0, 0 0 1", "0 1 0, 0 0 1, 1 0 0", "2 0 1"}, {3, "0 1 1, 1 0 0, 0 0 1", "1 0 0, 0 1 0, 0 0 1", "2 0 1"}, {3, "1 0 0, 0 1 1, 0 0 1", "1 0 0, 0 1 0, 0 0 1", "0 2 1"},
	} {
		is(t, text("RelativePosition of", c.a, "and", c.b, "modulo", c.p), text(impl.RelativePosition(matrix(c.p, c.a), matrix(c.p, c.b))), text(numbers(c.want)))
	}
	for _, n := range []int{1, 3, 4} {
		for _, u := range permsOf(n) {
			for _, v := range permsOf(n) {
				want := productOf(impl.InversePerm(v), u)
				is(t, text("RelativePosition of the matrices of", u, v), text(impl.RelativePosition(impl.PermMatrix(5, u), impl.PermMatrix(5, v))), text(want))
			}
		}
	}
}

// checkRelative holds the ranks of the position against what the members have in common.
func checkRelative(t *testing.T, a impl.Matrix, b impl.Matrix) {
	t.Helper()
	w := impl.RelativePosition(a, b)
	if len(w) != a.Rows || !impl.IsPerm(w) {
		t.Errorf("RelativePosition of %v, %v: %v", a, b, w)
		return
	}
	of := membersOf(b)
	for i, x := range membersOf(a) {
		for j, y := range of {
			is(t, text("RelativePosition of", a, b, "at", i, j), text(rankOf(w, i, j)), text(x.both(y).dimension(a.P)))
		}
	}
	is(t, text("RelativePosition of", b, a), text(impl.RelativePosition(b, a)), text(impl.InversePerm(w)))
}

func TestRelativePosition(t *testing.T) {
	for _, size := range []struct{ p, n int }{{2, 1}, {2, 2}, {2, 3}, {3, 2}, {5, 2}, {7, 2}} {
		all := allNormal(size.p, size.n)
		for _, a := range all {
			for _, b := range all {
				checkRelative(t, a, b)
			}
		}
	}
	source := rand.New(rand.NewPCG(7, 12))
	for _, size := range smallSizes() {
		for range 6 {
			checkRelative(t, randomFlag(source, size.p, size.n), randomFlag(source, size.p, size.n))
		}
	}
}

// TestPositionsOfLargeFlags: two flags are moved together, and each is given other rows
// with the same members.
func TestPositionsOfLargeFlags(t *testing.T) {
	source := rand.New(rand.NewPCG(7, 13))
	for i := range 200 {
		p, n := primes()[i%4], 3+i%5
		u, v, g := source.Perm(n), source.Perm(n), randomFlag(source, p, n)
		a := timesMatrix(timesMatrix(randomLower(source, p, n), onesAt(p, n, u)), g)
		b := timesMatrix(timesMatrix(randomLower(source, p, n), onesAt(p, n, v)), g)
		want := productOf(impl.InversePerm(v), u)
		is(t, text("RelativePosition of", a, b), text(impl.RelativePosition(a, b)), text(want))
		is(t, text("RelativePosition of", b, a), text(impl.RelativePosition(b, a)), text(impl.InversePerm(want)))
		is(t, text("RelativePosition of", a, "twice"), text(impl.RelativePosition(a, a)), text(ascending(n)))
		normal, _ := impl.NormalFlag(a)
		is(t, text("RelativePosition of", a, "and its normal form"), text(impl.RelativePosition(a, normal)), text(ascending(n)))
		k := source.IntN(n + 1)
		position := make([]int, n)
		for _, j := range want[:k] {
			position[j] = 1
		}
		is(t, text("PositionOf of the member", k, "of", a, "in", b), text(impl.PositionOf(impl.SpanOf(firstRows(a, k)), b)), text(position))
	}
}

// TestPositionsAreNotMoved by what moves both flags, or a space and a flag.
func TestPositionsAreNotMoved(t *testing.T) {
	source := rand.New(rand.NewPCG(7, 14))
	for i := range 120 {
		p, n := primes()[i%4], 1+i%7
		a, b, g := randomFlag(source, p, n), randomFlag(source, p, n), randomFlag(source, p, n)
		s := randomReduced(source, p, source.IntN(n+1), n)
		moved := timesMatrix(b, g)
		is(t, text("RelativePosition of", a, b, "moved by", g), text(impl.RelativePosition(timesMatrix(a, g), moved)), text(impl.RelativePosition(a, b)))
		is(t, text("PositionOf of", s, b, "moved by", g), text(impl.PositionOf(impl.SpanOf(timesMatrix(s, g)), moved)), text(impl.PositionOf(s, b)))
	}
}

// TestPositionsOfFirstNumbers: the members of the flag turned round have zeros in front.
func TestPositionsOfFirstNumbers(t *testing.T) {
	source := rand.New(rand.NewPCG(7, 15))
	for i := range 120 {
		p, n := primes()[i%4], 1+i%7
		round := reversed(ascending(n))
		m, s := randomFlag(source, p, n), randomReduced(source, p, source.IntN(n+1), n)
		is(t, text("RelativePosition of", m, "and the unit turned round"), text(impl.RelativePosition(m, onesAt(p, n, round))), text(productOf(round, impl.FlagPerm(m))))
		is(t, text("PositionOf of", s, "in the unit turned round"), text(impl.PositionOf(s, onesAt(p, n, round))), text(reversed(impl.SpaceString(s))))
	}
}

// TestPositionsOfThreeFlags: that of the outer two is below what those to and from the
// middle one make, and is their product where lengths add.
func TestPositionsOfThreeFlags(t *testing.T) {
	source := rand.New(rand.NewPCG(7, 16))
	some := func(count int, p int, n int) []impl.Matrix {
		var l []impl.Matrix
		for range count {
			l = append(l, randomFlag(source, p, n))
		}
		return l
	}
	products := 0
	for _, all := range [][]impl.Matrix{allNormal(2, 3), allNormal(3, 2), allNormal(5, 2), allNormal(7, 2), some(20, 3, 3), some(24, 2, 4), some(8, 5, 4), some(10, 2, 6), some(10, 7, 5), some(8, 3, 7)} {
		n := all[0].Rows
		positions := map[[2]int][]int{}
		for i, a := range all {
			for j, b := range all {
				positions[[2]int{i, j}] = impl.RelativePosition(a, b)
			}
		}
		for ij, first := range positions {
			for k := range all {
				second, outer := positions[[2]int{ij[1], k}], positions[[2]int{ij[0], k}]
				word := append(reducedWord(second), reducedWord(first)...)
				what := text("RelativePosition of", all[ij[0]], all[k], "by", all[ij[1]])
				isTrue(t, what+" is below", impl.IsBelowPerm(outer, impl.DemazurePerm(n, word)))
				if product := productOf(second, first); inversionsOf(product) == len(word) {
					products += btoi(len(reducedWord(first)) > 0 && len(reducedWord(second)) > 0)
					is(t, what, text(outer), text(product))
				}
			}
		}
	}
	isTrue(t, "there are many products", products > 500)
}

// TestFlagsAtPositions: there are as many in a position to a flag as a power of p says.
func TestFlagsAtPositions(t *testing.T) {
	source := rand.New(rand.NewPCG(7, 17))
	for _, size := range []struct{ p, n int }{{2, 1}, {2, 2}, {2, 3}, {2, 4}, {3, 2}, {3, 3}, {5, 2}, {7, 2}} {
		for range 3 {
			b := randomFlag(source, size.p, size.n)
			counts := map[string]int{}
			for _, a := range allNormal(size.p, size.n) {
				counts[text(impl.RelativePosition(a, b))]++
			}
			for _, w := range permsOf(size.n) {
				is(t, text("flags at the position", w, "to", b), text(counts[text(w)]), text(power(size.p, inversionsOf(w))))
			}
		}
	}
}

func TestPositionsOutside(t *testing.T) {
	flag, space := matrix(3, "1 2 0, 0 1 0, 1 1 1"), matrix(3, "1 0 2, 0 1 1")
	isTrue(t, "there is a position", impl.RelativePosition(flag, flag) != nil && impl.PositionOf(space, flag) != nil && impl.MeetsFlag(space, flag, nil))
	for _, m := range []impl.Matrix{matrix(3, "1 2, 0 1"), matrix(3, "1 0 0, 0 1 0"), matrix(3, "1 0 0, 0 1 0, 1 1 0"), noRows(3, 3), zeros(3, 3, 3), matrix(3, "1"), onesAt(3, 4, ascending(4)), onesAt(3, 3, []int{0, 1, 2, -1}), onesAt(2, 3, ascending(3)), onesAt(5, 3, ascending(3)), onesAt(7, 2, ascending(2)), {}} {
		is(t, text("RelativePosition of", flag, m), text(impl.RelativePosition(flag, m), impl.RelativePosition(m, flag)), "[] []")
		is(t, text("PositionOf of", space, m), text(impl.PositionOf(space, m), impl.MeetsFlag(space, m, nil), impl.MeetsFlag(space, m, []int{1})), "[] false false")
		is(t, text("PositionOf of no rows and", m), text(impl.PositionOf(noRows(3, 3), m), impl.MeetsFlag(noRows(3, 3), m, nil)), "[] false")
	}
	for _, m := range []impl.Matrix{matrix(3, "0 1 0, 1 0 0"), matrix(3, "2 0 0"), zeros(3, 1, 3), matrix(3, "1 1 0, 0 1 0"), matrix(3, "1 0"), matrix(3, "1 0 0 0"), noRows(3, 2), noRows(3, 4), noRows(2, 3), matrix(2, "1 0 0"), matrix(5, "1 0 0"), flag, {}} {
		is(t, text("PositionOf of", m, flag), text(impl.PositionOf(m, flag), impl.MeetsFlag(m, flag, nil)), "[] false")
	}
	for _, pair := range [][2]impl.Matrix{{onesAt(2, 2, ascending(2)), onesAt(3, 2, ascending(2))}, {onesAt(2, 2, ascending(2)), onesAt(2, 3, ascending(3))}, {zeros(2, 2, 2), zeros(2, 2, 2)}, {noRows(2, 2), noRows(2, 2)}} {
		is(t, text("RelativePosition of", pair), text(impl.RelativePosition(pair[0], pair[1])), "[]")
	}
}
