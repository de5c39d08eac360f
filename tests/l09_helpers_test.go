package tests

import (
	"fmt"
	"math"
	"slices"
	"strings"
	"testing"

	"loop.example/g03113/impl"
)

// session reads a session: its permutation, its sum and its shape as they are formatted,
// and its box.
func session(w string, l string, shape string, k int, n int) impl.Session {
	return impl.Session{Perm: perm(w), Sum: sumOrNone(l), Shape: numbers(shape), K: k, N: n}
}

// withShape returns a session whose shape and box are these.
func withShape(s impl.Session, shape []int, b box) impl.Session {
	s.Shape, s.K, s.N = shape, b.k, b.n
	return s
}

func withPerm(s impl.Session, w []int) impl.Session {
	s.Perm = w
	return s
}

func withSum(s impl.Session, l []impl.Class) impl.Session {
	s.Sum = l
	return s
}

// someSessions returns sessions with all shapes in all boxes, and with many permutations
// and sums.
func someSessions() []impl.Session {
	all := []impl.Session{impl.NewSession()}
	perms, sums := somePerms(), someSums()
	for _, b := range boxesUpTo(7) {
		for _, shape := range b.shapes() {
			i := len(all)
			all = append(all, impl.Session{Perm: perms[i*7%len(perms)], Sum: sums[i%len(sums)], Shape: shape, K: b.k, N: b.n})
		}
	}
	return all
}

// fewSessions returns some that differ much.
func fewSessions() []impl.Session {
	return []impl.Session{
		impl.NewSession(), session("1", "0", "", 0, 1), session("21", "-1000000:7654321", "", 7, 7), session("2143", "1:1, 2:132", "2 1", 2, 5), session("7654321", "5:21", "4 4 4", 3, 7), session("1234567", "1:1", "6", 1, 7),
		withSum(session("2517643", "0", "1 1 1", 6, 7), manyClasses(100)), withSum(session("1432", "0", "3 2 1", 3, 6), monomialClasses(100)), session("654321", "1000000:1342, 1000000:1423", "1", 4, 5),
	}
}

// notSessions returns what is no session, each for one reason.
func notSessions() []impl.Session {
	good := session("2143", "1:1, 2:132", "2 1", 2, 5)
	all := []impl.Session{{}, {K: 2, N: 4}, {Perm: []int{-7}}, {Perm: []int{0}}}
	for _, w := range notPerms() {
		all = append(all, withPerm(good, w), withPerm(impl.NewSession(), w))
	}
	for _, l := range notClasses() {
		all = append(all, withSum(good, l))
	}
	for _, b := range boxesUpTo(7) {
		for _, shape := range append(b.notIn(), []int{2, 1}) {
			if b.n > 4 && len(shape) < 100 && !impl.IsInBox(shape, b.k, b.n) {
				all = append(all, withShape(good, shape, b))
			}
		}
	}
	for _, shape := range (box{2, 5}).notIn() {
		all = append(all, withShape(good, shape, box{2, 5}))
	}
	for _, b := range notBoxes() {
		all = append(all, withShape(good, nil, b), withShape(good, []int{1}, b))
	}
	return all
}

// step is what a line does: the session behind it, and its output.
type step struct {
	after  impl.Session
	output string
}

// orNo is what a line says if it does not fail.
func orNo(output string, ok bool) string {
	if !ok {
		return "no"
	}
	return output
}

// answersOf returns the outputs of the words that change nothing.
func answersOf(s impl.Session) map[string]string {
	poly, polyOk := impl.SchubertPoly(s.Perm)
	dreams, dreamsOk := impl.PipeDreams(s.Perm)
	shapes, shapesOk := impl.StanleyShapes(s.Perm)
	square, squareOk := impl.GrProduct(s.Shape, s.Shape, s.K, s.N)
	quantum, quantumOk := impl.QuantumProduct(s.Shape, s.Shape, s.K, s.N)
	var essential []string
	for _, cell := range impl.EssentialOf(s.Perm) {
		essential = append(essential, fmt.Sprintf("%d.%d", cell.Row, cell.Col))
	}
	return map[string]string{
		"show":      fmt.Sprintf("%s/%s/%s/%d %d", impl.FormatPerm(s.Perm), impl.FormatClasses(s.Sum), impl.FormatInts(s.Shape), s.K, s.N),
		"length":    impl.FormatInt(impl.LengthOf(s.Perm)),
		"code":      impl.FormatInts(impl.CodeOf(s.Perm)),
		"words":     impl.FormatInt(impl.CountReduced(s.Perm)),
		"essential": "(" + strings.Join(essential, " ") + ")",
		"poly":      orNo(impl.FormatPoly(poly), polyOk),
		"dreams":    orNo(impl.FormatInt(len(dreams)), dreamsOk),
		"stanley":   orNo(impl.FormatParts(shapes), shapesOk),
		"degree":    impl.FormatInt(impl.DegreeOfGr(s.K, s.N)),
		"string":    impl.FormatInts(impl.StringOfShape(s.Shape, s.K, s.N)),
		"square":    orNo(impl.FormatParts(square), squareOk),
		"quantum":   orNo(impl.FormatQParts(quantum), quantumOk),
	}
}

// changesOf returns what the words do that change something.
func changesOf(s impl.Session) map[string]step {
	dual := impl.DualShape(s.Shape, s.K, s.N)
	changes := map[string]step{
		"inverse": {withPerm(s, impl.InversePerm(s.Perm)), "ok"},
		"trim":    {withPerm(s, impl.TrimPerm(s.Perm)), "ok"},
		"set":     {withSum(s, []impl.Class{{Perm: impl.TrimPerm(s.Perm), Count: 1}}), "ok"},
		"dual":    {withShape(s, dual, box{s.K, s.N}), impl.FormatInts(dual)},
		"times":   {s, "no"},
		"shape":   {s, "no"},
	}
	if l, ok := timesPerm(s); ok {
		changes["times"] = step{withSum(s, l), impl.FormatClasses(l)}
	}
	if shape, k, ok := impl.ShapeOfPerm(s.Perm); ok {
		changes["shape"] = step{withShape(s, shape, box{k, len(s.Perm)}), impl.FormatInts(shape)}
	}
	return changes
}

func timesPerm(s impl.Session) ([]impl.Class, bool) {
	f, fOk := impl.ClassesPoly(s.Sum)
	g, gOk := impl.SchubertPoly(s.Perm)
	product, ok := impl.MulPolys(f, g)
	if !fOk || !gOk || !ok {
		return nil, false
	}
	return impl.ExpandPoly(product)
}

// plainWords are the lines without a space that have a form.
func plainWords() []string {
	var words []string
	for word := range answersOf(impl.NewSession()) {
		words = append(words, word)
	}
	for word := range changesOf(impl.NewSession()) {
		words = append(words, word)
	}
	slices.Sort(words)
	return words
}

// textWords are the words that take a text.
func textWords() []string { return []string{"perm", "monk", "points", "box", "shape"} }

// formless returns lines that have no form, whatever the session is.
func formless() []string {
	lines := []string{
		"", " ", "  ", "   ", "\n", "\x00", "0", "21", "1 2", "x", "what", "ok", "no", "bad", "product", "perm", "monk", "points", "box", "degree of", "show length", "perm\t21", "perm\u00a021", "perms 21", "per 21", "p\u0435rm 21", "box,2 4", "points\n2", strings.Repeat("show", 10000), strings.Repeat(" ", 10000),
	}
	for _, word := range plainWords() {
		lines = append(lines, " "+word, "  "+word, " "+word+" ", word+"\n", word+"\t", "\t"+word, word+"\x00", word+word, word[:len(word)-1], word[1:], strings.ToUpper(word), strings.ToUpper(word[:1])+word[1:], word+"  ", word+" "+word, word+".")
		if word != "shape" {
			lines = append(lines, word+" ", word+" 1", word+" 2 1", word+" x", word+" 21")
		}
	}
	for _, text := range []string{"", " ", "x", "one", " 1", "1 ", "1  2", " 1 2", "1 2 ", "01", "00", "+1", "-0", "--1", "1.0", "1,2", "1e3", "0x1", "1_0", "1\t2", "\u0661", "1000000000", "-1000000000", "2 1000000000", "9223372036854775808", "18446744073709551618", "4294967298 x", strings.Repeat("1", 10000), strings.Repeat("1 ", 10000)} {
		for _, word := range []string{"monk", "points", "box", "shape"} {
			if word != "shape" || text != "" {
				lines = append(lines, word+" "+text)
			}
		}
	}
	lines = append(lines, "monk 0 0", "monk 2 1", "monk 1 1 1", "points 2 2", "points 2 3", "points 2 4 2", "box 2", "box 0", "box -1", "box 2 4 6", "box 0 1 1", "box 2 4 2 4")
	for _, word := range textWords() {
		lines = append(lines, " "+word+" 1", "  "+word+" 2 4", strings.ToUpper(word)+" 2 4", strings.ToUpper(word[:1])+word[1:]+" 1", word+word+" 1", word[1:]+" 2 4", word+"\t1 2", "show "+word+" 1")
	}
	return lines
}

// refused returns lines that have a form, with a text that no session takes.
func refused() []string {
	lines := []string{
		"perm ", "perm  ", "perm 0", "perm 2", "perm 11", "perm 10", "perm 133", "perm 13", "perm 1 2", "perm  21", "perm 21 ", "perm 2 1", "perm 021", "perm -1", "perm x", "perm 12345678", "perm 87654321", "perm 1234568", "perm 12\n", "perm perm 21", "perm \u0661", "perm \xff", "perm " + strings.Repeat("1", 10000),
		"monk -1", "monk -999999999", "monk 7", "monk 8", "monk 999999999", "box 0 0", "box 0 8", "box 3 8", "box 8 8", "box 5 4", "box 1 0", "box -1 4", "box -1 -1", "box 0 -1", "box 2 -4", "box -2 4", "box 8 7", "box 4 2", "box 999999999 7", "box 2 999999999", "box -999999999 -999999999",
		"shape 0", "shape -1", "shape 1 2", "shape 2 0", "shape 1 0", "shape 7", "shape 16", "shape 17", "shape 999999999", "shape -999999999", "shape 0 0", "shape 1 1 1 1 1 1 1 1", "shape 3 1 2", "shape 16 16", "shape 1" + strings.Repeat(" 1", 16), "shape 0" + strings.Repeat(" 0", 10000),
	}
	for _, p := range notPrimes() {
		if p >= -999999999 && p <= 999999999 {
			lines = append(lines, "points "+impl.FormatInt(p))
		}
	}
	return append(lines, "points 999999999", "points -999999999")
}

// taken returns lines that have a form and do something in many sessions.
func taken() []string {
	return append(plainWords(), "perm 1", "perm 21", "perm 132", "perm 2143", "perm 3412", "perm 1432", "perm 23154", "perm 162345", "perm 654321", "perm 7654321", "perm 1234567", "monk 0", "monk 1", "monk 2", "monk 6", "points 2", "points 3", "points 5", "points 7",
		"box 0 1", "box 1 1", "box 2 4", "box 0 7", "box 7 7", "box 3 7", "box 1 2", "shape ", "shape 1", "shape 2", "shape 1 1", "shape 2 1", "shape 2 2", "shape 4 4 4", "shape 3 2 1", "shape 6")
}

// allLines returns lines of all kinds.
func allLines() []string { return slices.Concat(taken(), refused(), formless()) }

// checkLine checks what a line does to a session.
func checkLine(t *testing.T, s impl.Session, line string, after impl.Session, output string) {
	t.Helper()
	before := text(s)
	got, said := impl.ExecuteLine(s, line)
	what := shortened(fmt.Sprintf("%q", line)) + " in " + shortened(before)
	is(t, what+": the output", said, output)
	is(t, what+": the session behind it", text(got), text(after))
	is(t, what+": the session that is passed in", text(s), before)
	is(t, what+": both are sessions", text(impl.SessionOk(s), impl.SessionOk(got)), text(said != "bad", said != "bad"))
}

// checkStays checks that a line changes nothing, and what it says.
func checkStays(t *testing.T, s impl.Session, line string, output string) {
	t.Helper()
	checkLine(t, s, line, s, output)
}

// run returns the outputs of lines, which must be as many.
func run(t *testing.T, lines ...string) []string {
	t.Helper()
	outputs := impl.RunSession(lines)
	is(t, text("the number of outputs of", lines), text(len(outputs)), text(len(lines)))
	return append(outputs, make([]string, len(lines))...)[:len(lines)]
}

// hardSessions are sessions and others for which a function might not return.
func hardSessions() []any {
	hard := []any{
		impl.Session{Perm: repeated(math.MaxInt, 1000), Sum: make([]impl.Class, 100000), Shape: repeated(math.MinInt, 1000), K: math.MinInt, N: math.MaxInt},
		impl.Session{Perm: []int{0}, K: math.MaxInt, N: 7}, impl.Session{Perm: []int{0}, K: math.MinInt, N: 7}, impl.Session{Perm: []int{0}, K: 1, N: math.MinInt}, impl.Session{Perm: []int{0}, K: math.MaxInt, N: math.MaxInt},
	}
	for _, s := range append(fewSessions(), notSessions()[:4]...) {
		hard = append(hard, s)
	}
	return hard
}

// hardLines are lists of lines for which a function might not return.
func hardLines() []any {
	slow := slices.Repeat([]string{"perm 1327654", "set", "times", "perm 2156437", "times", "stanley", "words", "perm 3251674", "set", "perm 2516437", "times", "poly"}, 5)
	return []any{
		[]string(nil), []string{}, []string{""}, taken(), refused()[:60], formless()[:60], make([]string, 60), make([]string, 61), make([]string, 100000), slow, slices.Repeat([]string{"times"}, 60), []string{"perm 21", "set", strings.Repeat("times ", 100000)},
	}
}
