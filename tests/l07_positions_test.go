package tests

import (
	"math/rand/v2"
	"slices"
	"testing"

	"loop.example/g03113/impl"
)

func TestPositionOfFew(t *testing.T) {
	for _, c := range []struct {
		p          int
		s, b, want string
	}{
		{3, "0 1", "1 0, 0 1", "01"}, {3, "0 1", "0 1, 1 0", "10"}, {3, "1 2", "2 1, 0 1", "10"}, {3, "1 1", "2 1, 0 1", "01"}, {2, "1 0 1, 0 1 1", "1 1 0, 1 0 0, 0 0 1", "101"}, {2, "1 0 0, 0 1 0", "0 0 1, 0 1 1, 1 1 1", "011"}, {7, "1", "3", "1"}, {5, "1 0 0 0, 0 0 1 0", "1 0 0 0, 0 1 0 0, 0 0 1 0, 0 0 0 1", "1010"},
	} {
		is(t, text("PositionOf of", c.s, "in", c.b, "modulo", c.p), text(impl.PositionOf(matrix(c.p, c.s), matrix(c.p, c.b))), text(digits(c.want)))
	}
	source := rand.New(rand.NewPCG(7, 18))
	for _, p := range primes() {
		for n := 1; n <= 7; n++ {
			b := randomFlag(source, p, n)
			is(t, text("PositionOf of no rows in", b), text(impl.PositionOf(noRows(p, n), b)), text(repeated(0, n)))
			is(t, text("PositionOf of all in", b), text(impl.PositionOf(onesAt(p, n, ascending(n)), b)), text(repeated(1, n)))
		}
	}
}

// checkMeets holds the position of a space against what it has in common with the members
// of a flag, and asks for all shapes in the box whether it meets the flag.
func checkMeets(t *testing.T, s impl.Matrix, b impl.Matrix) {
	t.Helper()
	position := impl.PositionOf(s, b)
	if len(position) != s.Cols || !impl.IsString(position) || total(position) != s.Rows {
		t.Errorf("PositionOf of %v, %v: %v", s, b, position)
		return
	}
	var common []int
	of := sumsOf(s)
	for j, member := range membersOf(b) {
		common = append(common, of.both(member).dimension(s.P))
		is(t, text("PositionOf of", s, b, "up to", j), text(total(position[:j])), text(common[j]))
	}
	in := box{s.Rows, s.Cols}
	for _, shape := range in.shapes() {
		want := true
		for i := range s.Rows {
			want = want && common[s.Cols-s.Rows+i+1-rowOf(shape, i)] >= i+1
		}
		is(t, text("MeetsFlag of", s, b, shape), text(impl.MeetsFlag(s, b, shape)), text(want))
		lies := impl.ContainsShape(in.dual(shapeOfDigits(position)), shape)
		is(t, text("MeetsFlag of", s, b, shape, "by the position", position), text(want), text(lies))
	}
}

func TestSpacesMeetFlags(t *testing.T) {
	for _, size := range []struct{ p, n int }{{2, 1}, {2, 2}, {2, 3}, {3, 2}, {5, 2}, {7, 2}} {
		for k := range size.n + 1 {
			for _, s := range allSpaces(size.p, k, size.n) {
				for _, b := range allNormal(size.p, size.n) {
					checkMeets(t, s, b)
				}
			}
		}
	}
	source := rand.New(rand.NewPCG(7, 19))
	for _, size := range smallSizes() {
		for range 5 {
			checkMeets(t, randomReduced(source, size.p, source.IntN(size.n+1), size.n), randomFlag(source, size.p, size.n))
		}
	}
}

// TestSpacesOfKnownPosition takes a space that is made of some rows of a flag.
func TestSpacesOfKnownPosition(t *testing.T) {
	source := rand.New(rand.NewPCG(7, 20))
	for i := range 120 {
		p, n := primes()[i%4], 4+i%4
		b := randomFlag(source, p, n)
		position := make([]int, n)
		var l [][]int
		for j, row := range rowsOf(b) {
			if source.IntN(2) == 1 {
				position[j] = 1
				l = append(l, row)
			}
		}
		s := impl.SpanOf(matrixOfRows(p, n, l))
		moved := timesMatrix(randomLower(source, p, n), b)
		is(t, text("PositionOf of", s, moved), text(impl.PositionOf(s, moved)), text(position))
		in := box{len(l), n}
		least := in.dual(shapeOfDigits(position))
		for _, shape := range in.shapes() {
			is(t, text("MeetsFlag of", s, moved, shape), text(impl.MeetsFlag(s, moved, shape)), text(impl.ContainsShape(least, shape)))
		}
	}
}

func TestMeetsFlagOfFew(t *testing.T) {
	for _, c := range []struct {
		p           int
		s, b, shape string
		want        bool
	}{
		{3, "0 1", "1 0, 0 1", "1", false}, {3, "0 1", "0 1, 1 0", "1", true}, {3, "0 1", "1 0, 0 1", "", true}, {3, "0 1", "1 0, 0 1", "2", false}, {3, "0 1", "0 1, 1 0", "2", false}, {3, "0 1", "0 1, 1 0", "1 1", false}, {3, "0 1", "0 1, 1 0", "0", false}, {3, "1 0, 0 1", "0 1, 1 0", "", true}, {3, "1 0, 0 1", "0 1, 1 0", "1", false},
		{2, "1 0 0 0, 0 1 0 0", "1 0 0 0, 0 1 0 0, 0 0 1 0, 0 0 0 1", "2 2", true}, {2, "1 0 0 0, 0 0 1 0", "1 0 0 0, 0 1 0 0, 0 0 1 0, 0 0 0 1", "2 2", false}, {2, "1 0 0 0, 0 0 1 0", "1 0 0 0, 0 1 0 0, 0 0 1 0, 0 0 0 1", "2 1", true}, {2, "0 1 0 0, 0 0 1 0", "1 0 0 0, 0 1 0 0, 0 0 1 0, 0 0 0 1", "2", false}, {2, "0 1 0 0, 0 0 1 0", "1 0 0 0, 0 1 0 0, 0 0 1 0, 0 0 0 1", "1 1", true}, {2, "0 1 0 0, 0 0 1 0", "1 0 0 0, 0 1 0 0, 0 0 1 0, 0 0 0 1", "1 2", false},
		{2, "1 0 0 0, 0 0 0 1", "1 0 0 0, 0 1 0 0, 0 0 1 0, 0 0 0 1", "2", true}, {2, "1 0 0 0, 0 0 0 1", "1 0 0 0, 0 1 0 0, 0 0 1 0, 0 0 0 1", "1 1", false}, {7, "1", "3", "", true}, {7, "1", "3", "1", false},
	} {
		is(t, text("MeetsFlag of", c.s, "and", c.b, "with", c.shape), text(impl.MeetsFlag(matrix(c.p, c.s), matrix(c.p, c.b), numbers(c.shape))), text(c.want))
	}
}

// TestTheShapesAtTheEnds: all spaces meet a flag as the empty shape asks, one alone as the
// shape that fills the box does; none meets it with a shape outside.
func TestTheShapesAtTheEnds(t *testing.T) {
	source := rand.New(rand.NewPCG(7, 21))
	for _, b := range boxesUpTo(7) {
		for _, p := range primes() {
			m := randomFlag(source, p, b.n)
			member := impl.SpanOf(firstRows(m, b.k))
			other := randomReduced(source, p, b.k, b.n)
			what := text("in", b, "and", m)
			is(t, "MeetsFlag of the member "+what, text(impl.MeetsFlag(member, m, b.full()), impl.MeetsFlag(member, m, nil)), "true true")
			is(t, text("MeetsFlag of", other, what), text(impl.MeetsFlag(other, m, b.full()), impl.MeetsFlag(other, m, []int{})), text(slices.Equal(other.Data, member.Data), true))
			for _, l := range b.notIn() {
				isFalse(t, brief("MeetsFlag with", l, what), impl.MeetsFlag(member, m, l))
			}
		}
	}
}

// TestSpacesThatMeetAFlag are counted by the shapes that contain the given one.
func TestSpacesThatMeetAFlag(t *testing.T) {
	source := rand.New(rand.NewPCG(7, 22))
	for _, size := range []struct{ p, k, n int }{{2, 0, 3}, {2, 1, 3}, {2, 2, 3}, {2, 3, 3}, {2, 2, 4}, {2, 3, 4}, {2, 1, 5}, {2, 2, 5}, {3, 1, 4}, {3, 2, 4}, {3, 2, 3}, {5, 1, 3}, {5, 2, 3}, {7, 1, 3}, {7, 1, 2}} {
		in := box{size.k, size.n}
		all := allSpaces(size.p, size.k, size.n)
		for _, b := range []impl.Matrix{onesAt(size.p, size.n, ascending(size.n)), randomFlag(source, size.p, size.n), randomFlag(source, size.p, size.n), randomFlag(source, size.p, size.n)} {
			for _, shape := range in.shapes() {
				got, want := 0, 0
				for _, s := range all {
					got += btoi(impl.MeetsFlag(s, b, shape))
				}
				for _, c := range in.shapes() {
					if impl.ContainsShape(c, shape) {
						want += power(size.p, in.k*(in.n-in.k)-total(c))
					}
				}
				is(t, text("spaces of", size, "that meet", b, "as", shape, "asks"), text(got), text(want))
			}
		}
	}
}
