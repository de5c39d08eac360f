package tests

import (
	"fmt"
	"math/rand/v2"
	"slices"
	"testing"

	"loop.example/g03113/impl"
)

func TestLimitsOfSessions(t *testing.T) {
	is(t, "MaxLines", text(impl.MaxLines), "60")
	is(t, "Session", text(impl.Session{Perm: []int{1, 0}, Sum: []impl.Class{{Perm: []int{0}, Count: 2}}, Shape: []int{3}, K: 4, N: 5}), "{[1 0] [{[0] 2}] [3] 4 5}")
}

func TestNewSession(t *testing.T) {
	is(t, "NewSession", text(impl.NewSession()), "{[0] [] [] 2 4}")
	isTrue(t, "SessionOk of NewSession", impl.SessionOk(impl.NewSession()))
}

// TestRunSessionOfFew tells what is said in words of the document alone.
func TestRunSessionOfFew(t *testing.T) {
	for _, l := range [][][2]string{
		{{"show", "1/0//2 4"}, {"length", "0"}, {"code", "0"}, {"words", "1"}, {"essential", "()"}, {"poly", "1:"}, {"dreams", "1"}, {"stanley", "1:"}, {"degree", "2"}, {"string", "1 1 0 0"}, {"square", "1:"}, {"quantum", "1:q0:"}, {"times", "0"}, {"shape", "no"}, {"dual", "2 2"}, {"square", "0"}, {"quantum", "1:q2:"}, {"dual", ""}, {"set", "ok"}, {"show", "1/1:1//2 4"}},
		{{"perm 2143", "ok"}, {"length", "2"}, {"code", "1 0 1 0"}, {"words", "2"}, {"essential", "(0.0 2.2)"}, {"poly", "1:1 0 1, 1:1 1, 1:2"}, {"dreams", "3"}, {"stanley", "1:1 1, 1:2"}, {"shape", "no"}, {"trim", "ok"}, {"show", "2143/0//2 4"}, {"monk 0", "1:3142, 1:4123"}, {"monk 1", "1:2341, 1:2413, 1:3142, 1:4123"}, {"monk 2", "1:21534, 1:2341, 1:3142"}, {"monk 4", "no"}},
		{{"perm 1423", "ok"}, {"inverse", "ok"}, {"show", "1342/0//2 4"}, {"set", "ok"}, {"inverse", "ok"}, {"times", "1:15324, 1:2431"}, {"show", "1423/1:15324, 1:2431//2 4"}, {"shape", "2"}, {"show", "1423/1:15324, 1:2431/2/2 4"}, {"string", "1 0 0 1"}, {"dual", "2"}},
		{{"perm 2134567", "ok"}, {"set", "ok"}, {"show", "2134567/1:21//2 4"}, {"shape", "1"}, {"trim", "ok"}, {"show", "21/1:21/1/1 7"}},
		{{"box 3 6", "ok"}, {"shape 2 1", "ok"}, {"degree", "42"}, {"string", "1 0 1 0 1 0"}, {"square", "1:2 2 2, 2:3 2 1, 1:3 3"}, {"quantum", "1:q0:2 2 2, 2:q0:3 2 1, 1:q0:3 3, 1:q1:"}, {"dual", "3 2 1"}, {"points 2", "1395"}, {"points 4", "no"}, {"box 3 6", "ok"}, {"show", "1/0//3 6"}},
		{{"box 0 3", "ok"}, {"square", "1:"}, {"quantum", "no"}, {"dual", ""}, {"degree", "1"}, {"string", "0 0 0"}, {"points 7", "1"}, {"shape 1", "no"}, {"shape ", "ok"}, {"box 3 3", "ok"}, {"string", "1 1 1"}, {"quantum", "1:q0:"}, {"box 4 3", "no"}, {"show", "1/0//3 3"}},
		{{"perm 54321", "ok"}, {"words", "768"}, {"stanley", "1:4 3 2 1"}, {"perm 654321", "ok"}, {"words", "292864"}, {"stanley", "no"}, {"dreams", "1"}, {"perm 7654321", "ok"}, {"dreams", "no"}, {"words", "1100742656"}, {"poly", "1:6 5 4 3 2 1"}, {"monk 0", "no"}, {"essential", "(0.5 1.4 2.3 3.2 4.1 5.0)"}},
	} {
		var lines []string
		for _, pair := range l {
			lines = append(lines, pair[0])
		}
		for i, output := range run(t, lines...) {
			is(t, text(lines[:i+1]), output, l[i][1])
		}
	}
}

func TestSessionOk(t *testing.T) {
	for _, s := range append(someSessions(), fewSessions()...) {
		isTrue(t, shortened(text("SessionOk of", s)), impl.SessionOk(s))
	}
	for _, w := range somePerms() {
		isTrue(t, text("SessionOk with", w), impl.SessionOk(withPerm(impl.NewSession(), w)))
	}
	for _, b := range boxesUpTo(7) {
		for _, shape := range someShapes() {
			is(t, text("SessionOk with", shape, "in", b), text(impl.SessionOk(withShape(impl.NewSession(), shape, b))), text(len(shape) <= b.k && rowOf(shape, 0) <= b.n-b.k))
		}
	}
	for n := range 101 {
		isTrue(t, text("SessionOk with", n, "classes"), impl.SessionOk(withSum(impl.NewSession(), manyClasses(n))))
	}
	isFalse(t, "SessionOk with 101 classes", impl.SessionOk(withSum(impl.NewSession(), manyClasses(101))))
	for _, s := range notSessions() {
		isFalse(t, shortened(brief("SessionOk of", s)), impl.SessionOk(s))
	}
}

// TestNoSession: what is no session stays as it is, whatever the line.
func TestNoSession(t *testing.T) {
	lines := allLines()
	for i, s := range notSessions() {
		for _, line := range []string{"show", "box 2 4", "", lines[i%len(lines)]} {
			checkStays(t, s, line, "bad")
		}
	}
	for _, line := range lines {
		for _, s := range []impl.Session{{}, withPerm(impl.NewSession(), []int{0, 0}), withSum(impl.NewSession(), sum("1:21, 1:1")), withShape(impl.NewSession(), []int{3}, box{2, 4}), withShape(impl.NewSession(), nil, box{0, 0})} {
			checkStays(t, s, line, "bad")
		}
	}
}

func TestWordsThatAnswer(t *testing.T) {
	for _, s := range append(someSessions(), fewSessions()...) {
		for word, output := range answersOf(s) {
			checkStays(t, s, word, output)
		}
	}
}

func TestWordsThatChange(t *testing.T) {
	for _, s := range append(someSessions(), fewSessions()...) {
		for word, step := range changesOf(s) {
			checkLine(t, s, word, step.after, step.output)
		}
	}
}

// TestWordsWithPerms takes all permutations of at most 5, and many others.
func TestWordsWithPerms(t *testing.T) {
	met := map[string]int{}
	for _, w := range somePerms() {
		s := withPerm(session("1", "-2:132, 1:21", "2 1", 2, 5), w)
		for word, output := range answersOf(s) {
			checkStays(t, s, word, output)
			if output == "no" {
				met[word]++
			}
		}
		for word, step := range changesOf(s) {
			checkLine(t, s, word, step.after, step.output)
			if step.output == "no" {
				met[word]++
			}
		}
		is(t, text("shape fails for", w), text(impl.RunSession([]string{"perm " + impl.FormatPerm(w), "shape"})[1] == "no"), text(len(impl.DescentsOf(w)) != 1))
	}
	is(t, "the words that fail", text(len(met)), "4")
	for _, word := range []string{"dreams", "stanley", "times", "shape"} {
		isTrue(t, text(word, "fails", met[word], "times"), met[word] > 5)
	}
}

func TestFormlessLines(t *testing.T) {
	for _, s := range fewSessions() {
		for _, line := range formless() {
			checkStays(t, s, line, "what")
		}
	}
	for _, word := range textWords() {
		if word != "shape" {
			checkStays(t, impl.NewSession(), word, "what")
		}
	}
	for _, word := range plainWords() {
		if word != "shape" {
			checkStays(t, impl.NewSession(), word+" ", "what")
			checkStays(t, impl.NewSession(), word+" 1", "what")
		}
	}
}

func TestRefusedLines(t *testing.T) {
	for _, s := range fewSessions() {
		for _, line := range refused() {
			checkStays(t, s, line, "no")
		}
	}
}

func TestPermLine(t *testing.T) {
	for _, s := range fewSessions() {
		for _, w := range append(somePerms(), permsOf(6)...) {
			checkLine(t, s, "perm "+impl.FormatPerm(w), withPerm(s, w), "ok")
		}
		checkLine(t, s, "perm 7654321", withPerm(s, impl.LongestPerm(7)), "ok")
		checkStays(t, s, "perm 87654321", "no")
		checkStays(t, s, "perm ", "no")
		checkStays(t, s, "perm", "what")
		for _, l := range notPerms() {
			if line := "perm "; len(l) < 100 {
				for _, x := range l {
					line += impl.FormatInt(x)
				}
				if _, ok := impl.ParsePerm(line[5:]); !ok {
					checkStays(t, s, line, "no")
				}
			}
		}
	}
}

func TestMonkLine(t *testing.T) {
	for _, w := range somePerms() {
		s := withPerm(session("1", "3:21", "1", 2, 3), w)
		for k := -3; k <= 9; k++ {
			classes, ok := impl.MonkProduct(w, k)
			checkStays(t, s, "monk "+impl.FormatInt(k), orNo(impl.FormatClasses(classes), ok))
			is(t, text("monk succeeds for", w, k), text(ok), text(len(w) < 7 && k >= 0 && k < len(w)))
		}
	}
	s := session("132", "0", "", 2, 4)
	checkStays(t, s, "monk 0", "1:231, 1:312")
	checkStays(t, s, "monk 2", "1:1342, 1:1423")
	for _, line := range []string{"monk 3", "monk 4", "monk -1", "monk 999999999", "monk -999999999"} {
		checkStays(t, s, line, "no")
	}
}

func TestPointsLine(t *testing.T) {
	for _, b := range boxesUpTo(7) {
		s := withShape(session("21", "0", "", 2, 4), b.full(), b)
		for p := -3; p <= 20; p++ {
			count := impl.CountSpaces(p, b.k, b.n)
			checkStays(t, s, "points "+impl.FormatInt(p), orNo(impl.FormatInt(count), count != -1))
			is(t, text("points succeeds for", p), text(count != -1), text(slices.Contains(primes(), p)))
		}
	}
}

func TestBoxLine(t *testing.T) {
	for _, s := range fewSessions() {
		for k := -2; k <= 9; k++ {
			for n := -2; n <= 9; n++ {
				after, output := s, "no"
				if n >= 1 && n <= 7 && k >= 0 && k <= n {
					after, output = withShape(s, nil, box{k, n}), "ok"
				}
				checkLine(t, s, fmt.Sprintf("box %d %d", k, n), after, output)
			}
		}
	}
}

func TestShapeLine(t *testing.T) {
	for _, b := range boxesUpTo(7) {
		s := withShape(session("2143", "-7:321", "", 2, 4), b.full(), b)
		checkLine(t, s, "shape ", withShape(s, nil, b), "ok")
		for _, shape := range b.shapes() {
			checkLine(t, s, "shape "+impl.FormatInts(shape), withShape(s, shape, b), "ok")
		}
		for _, l := range append(b.notIn(), someShapes()...) {
			line := impl.FormatInts(l)
			after, output := s, "no"
			if _, ok := impl.ParseInts(line); !ok {
				output = "what"
			} else if impl.IsInBox(l, b.k, b.n) {
				after, output = withShape(s, l, b), "ok"
			}
			checkLine(t, s, "shape "+line, after, output)
		}
	}
}

// TestShapeWord: the box is that of the permutation, whatever it was before.
func TestShapeWord(t *testing.T) {
	for _, b := range boxesUpTo(7) {
		for _, shape := range b.shapes() {
			w := impl.GrassmannianPerm(shape, b.k, b.n)
			s := withPerm(session("1", "-7:321", "1 1", 3, 4), w)
			if len(shape) == 0 {
				checkStays(t, s, "shape", "no")
				continue
			}
			checkLine(t, s, "shape", withShape(s, shape, b), impl.FormatInts(shape))
		}
	}
	for _, s := range fewSessions() {
		for _, w := range []string{"1", "12", "1234567", "321", "2143", "7654321", "1324657", "21435"} {
			checkStays(t, withPerm(s, perm(w)), "shape", "no")
		}
		for w, after := range map[string]impl.Session{"21": session("21", "0", "1", 1, 2), "132": session("132", "0", "1", 2, 3), "1324567": session("1324567", "0", "1", 2, 7), "7123456": session("7123456", "0", "6", 1, 7), "2345671": session("2345671", "0", "1 1 1 1 1 1", 6, 7), "2413": session("2413", "0", "2 1", 2, 4)} {
			checkLine(t, withPerm(s, perm(w)), "shape", withSum(after, s.Sum), impl.FormatInts(after.Shape))
		}
	}
}

// TestTimesFails: a sum has no polynomial, the product is none, or it is no sum.
func TestTimesFails(t *testing.T) {
	for _, s := range []impl.Session{
		session("1", "1000000:1342, 1000000:1423", "", 2, 4), session("21", "-1000000:132, -1:21", "", 2, 4), withSum(session("1", "0", "", 2, 4), manyClasses(100)),
		session("132", "1000000:132", "", 2, 4), session("132", "-1000000:132", "", 2, 4), session("1327654", "1:1327654", "1", 2, 4),
		session("1234576", "1:1234576", "1", 2, 4), session("21", "1:7654321", "", 2, 4), session("7654321", "-3:21", "", 1, 2), session("2345671", "1:21, 1:2345671", "", 2, 4), session("2156437", "1:3421675", "", 2, 4),
	} {
		checkStays(t, s, "times", "no")
	}
	checkLine(t, session("132", "500000:132", "", 2, 4), "times", session("132", "500000:1423, 500000:231", "", 2, 4), "500000:1423, 500000:231")
	checkLine(t, session("231", "-1000000:132", "", 2, 4), "times", session("231", "-1000000:2413", "", 2, 4), "-1000000:2413")
}

// TestSumsOfSessions takes sums with no and with most classes.
func TestSumsOfSessions(t *testing.T) {
	for _, w := range somePerms() {
		checkStays(t, withPerm(session("1", "0", "2", 1, 7), w), "times", "0")
	}
	one := session("1", "0", "", 2, 4)
	checkStays(t, withSum(one, monomialClasses(100)), "times", impl.FormatClasses(monomialClasses(100)))
	checkStays(t, withSum(one, manyClasses(100)), "show", "1/"+impl.FormatClasses(manyClasses(100))+"//2 4")
	checkLine(t, withSum(one, manyClasses(100)), "set", withSum(one, sum("1:1")), "ok")
	for _, line := range []string{"times", "show", "set", "what"} {
		checkStays(t, withSum(one, monomialClasses(101)), line, "bad")
	}
	outputs := run(t, "perm 3251674", "set", "perm 2516437", "times", "show")
	l, ok := impl.MulPerms(perm("3251674"), perm("2516437"))
	is(t, "times with 100 classes behind it", text(len(l), ok, outputs), text(100, true, []string{"ok", "ok", "ok", impl.FormatClasses(l), "2516437/" + impl.FormatClasses(l) + "//2 4"}))
	is(t, "times with more", text(run(t, "perm 3421675", "set", "perm 2156437", "times", "show")), text([]string{"ok", "ok", "ok", "no", "2156437/1:3421675//2 4"}))
}

// TestTimesIsProduct: times multiplies a sum class by class.
func TestTimesIsProduct(t *testing.T) {
	for _, u := range permsUpTo(4) {
		for _, v := range permsUpTo(4) {
			want, ok := impl.MulPerms(u, v)
			outputs := run(t, "perm "+impl.FormatPerm(u), "set", "perm "+impl.FormatPerm(v), "times", "show")
			isTrue(t, text("MulPerms of", u, v, "succeeds"), ok)
			is(t, text("times of", u, v), text(outputs[3:]), text([]string{impl.FormatClasses(want), impl.FormatPerm(v) + "/" + impl.FormatClasses(want) + "//2 4"}))
		}
	}
	is(t, "times, twice", text(run(t, "perm 132", "set", "times", "times")), text([]string{"ok", "ok", "1:1423, 1:231", "1:15234, 2:2413"}))
}

func TestRunSession(t *testing.T) {
	is(t, "RunSession of nil", text(impl.RunSession(nil)), "[]")
	is(t, "RunSession of no line", text(impl.RunSession([]string{})), "[]")
	is(t, "RunSession of the empty line", text(impl.RunSession([]string{""})), "[what]")
	for _, n := range []int{1, 2, 59, 60} {
		is(t, text("RunSession of", n, "lines"), text(impl.RunSession(slices.Repeat([]string{"length"}, n))), text(slices.Repeat([]string{"0"}, n)))
	}
	for _, n := range []int{61, 62, 120, 100000} {
		is(t, text("RunSession of", n, "lines"), text(impl.RunSession(slices.Repeat([]string{"length"}, n))), "[]")
		is(t, text("RunSession of", n, "empty lines"), text(impl.RunSession(make([]string, n))), "[]")
	}
}

// TestRunSessionIsLineAfterLine goes on from session to session, each step being
// checked: no and what change nothing.
func TestRunSessionIsLineAfterLine(t *testing.T) {
	source := rand.New(rand.NewPCG(31, 37))
	lines, met := allLines(), map[string]int{}
	for n := range 500 {
		var script, outputs []string
		s := impl.NewSession()
		for range n % 61 {
			line := taken()[source.IntN(len(taken()))]
			if source.IntN(4) == 0 {
				line = lines[source.IntN(len(lines))]
			}
			after, output := impl.ExecuteLine(s, line)
			if output == "no" || output == "what" {
				is(t, shortened(fmt.Sprintf("%q in %v", line, s)), text(after), text(s))
				met[output]++
			}
			s = after
			script, outputs = append(script, line), append(outputs, output)
		}
		is(t, shortened(fmt.Sprintf("RunSession of %q", script)), text(impl.RunSession(script)), text(outputs))
		isTrue(t, shortened(fmt.Sprintf("SessionOk behind %q", script)), impl.SessionOk(s))
	}
	isTrue(t, text("there are lines that change nothing:", met), met["no"] > 500 && met["what"] > 500)
}
