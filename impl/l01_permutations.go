package impl

import (
	"math/bits"
	"slices"
	"strconv"
	"strings"
)

const (
	MaxN     = 7
	MaxWord  = 60
	MaxWords = 800
)

const maxReadInt = 999999999

// Cell is a place in a square of rows and columns.
type Cell struct {
	Row int
	Col int
}

// permArray keeps a permutation of any size. Behind its end, i stands at each
// place i: so two permutations have equal arrays just if they are equal as soon
// as both are embedded in one size, and an array can be the key of a map.
type permArray [MaxN]int

func FormatInt(n int) string { return strconv.Itoa(n) }

func FormatInts(l []int) string {
	var text strings.Builder
	for i, n := range l {
		if i > 0 {
			text.WriteByte(' ')
		}
		text.WriteString(FormatInt(n))
	}
	return text.String()
}

func ParseInts(s string) ([]int, bool) {
	if s == "" {
		return nil, true
	}
	var l []int
	for piece := range strings.SplitSeq(s, " ") {
		n, ok := readInt(piece)
		if !ok {
			return nil, false
		}
		l = append(l, n)
	}
	return l, true
}

// readInt takes only the text that FormatInt writes: Atoi alone would also take
// a plus sign, leading zeros and -0.
func readInt(s string) (int, bool) {
	n, err := strconv.Atoi(s)
	if err != nil || n < -maxReadInt || n > maxReadInt || FormatInt(n) != s {
		return 0, false
	}
	return n, true
}

func isPermSize(n int) bool { return n >= 1 && n <= MaxN }

func identityArray() permArray {
	var a permArray
	for i := range a {
		a[i] = i
	}
	return a
}

// arrayOf returns the array of w, and whether w is a permutation.
func arrayOf(w []int) (permArray, bool) {
	if !isPermSize(len(w)) {
		return permArray{}, false
	}
	a := identityArray()
	var seen [MaxN]bool
	for i, x := range w {
		if x < 0 || x >= len(w) || seen[x] {
			return permArray{}, false
		}
		seen[x] = true
		a[i] = x
	}
	return a, true
}

func (a permArray) list(n int) []int { return slices.Clone(a[:n]) }

func (a permArray) times(b permArray) permArray {
	var product permArray
	for i, x := range b {
		product[i] = a[x]
	}
	return product
}

func (a permArray) inverse() permArray {
	var inverse permArray
	for i, x := range a {
		inverse[x] = i
	}
	return inverse
}

func (a permArray) exchanged(i int, j int) permArray {
	a[i], a[j] = a[j], a[i]
	return a
}

func (a permArray) isDescent(k int) bool { return a[k] > a[k+1] }

// inversionsAt counts the inversions whose first place is i.
func (a permArray) inversionsAt(i int) int {
	count := 0
	for _, x := range a[i+1:] {
		if x < a[i] {
			count++
		}
	}
	return count
}

func (a permArray) length() int {
	sum := 0
	for i := range a {
		sum += a.inversionsAt(i)
	}
	return sum
}

// isCoveredAt reports whether the length grows by just one when the numbers at the
// places i and j are exchanged.
func (a permArray) isCoveredAt(i int, j int) bool {
	return a.exchanged(i, j).length() == a.length()+1
}

// rank counts the places before r with numbers less than c.
func (a permArray) rank(r int, c int) int {
	count := 0
	for _, x := range a[:r] {
		if x < c {
			count++
		}
	}
	return count
}

// flattened returns the permutation whose numbers are in the same order as those
// of a at the places of a set, which has one bit for each place.
func (a permArray) flattened(places uint) permArray {
	flat := identityArray()
	next := 0
	for i := range a {
		if places>>i&1 == 0 {
			continue
		}
		flat[next] = 0
		for j := range a {
			if places>>j&1 == 1 && a[j] < a[i] {
				flat[next]++
			}
		}
		next++
	}
	return flat
}

func IsPerm(w []int) bool {
	_, ok := arrayOf(w)
	return ok
}

func IdentityPerm(n int) []int {
	if !isPermSize(n) {
		return nil
	}
	return identityArray().list(n)
}

func LongestPerm(n int) []int {
	w := IdentityPerm(n)
	slices.Reverse(w)
	return w
}

func ComposePerms(u []int, v []int) []int {
	a, uOk := arrayOf(u)
	b, vOk := arrayOf(v)
	if !uOk || !vOk || len(u) != len(v) {
		return nil
	}
	return a.times(b).list(len(u))
}

func InversePerm(w []int) []int {
	a, ok := arrayOf(w)
	if !ok {
		return nil
	}
	return a.inverse().list(len(w))
}

func LengthOf(w []int) int {
	a, ok := arrayOf(w)
	if !ok {
		return -1
	}
	return a.length()
}

func DescentsOf(w []int) []int {
	a, ok := arrayOf(w)
	if !ok {
		return nil
	}
	var descents []int
	for k := range len(w) - 1 {
		if a.isDescent(k) {
			descents = append(descents, k)
		}
	}
	return descents
}

func CodeOf(w []int) []int {
	a, ok := arrayOf(w)
	if !ok {
		return nil
	}
	code := make([]int, len(w))
	for i := range code {
		code[i] = a.inversionsAt(i)
	}
	return code
}

func PermOfCode(c []int) []int {
	if !isPermSize(len(c)) {
		return nil
	}
	unused := IdentityPerm(len(c))
	w := make([]int, len(c))
	for i, k := range c {
		if k < 0 || k >= len(unused) {
			return nil
		}
		w[i] = unused[k]
		unused = slices.Delete(unused, k, k+1)
	}
	return w
}

func EmbedPerm(w []int, n int) []int {
	a, ok := arrayOf(w)
	if !ok || n < len(w) || n > MaxN {
		return nil
	}
	return a.list(n)
}

func TrimPerm(w []int) []int {
	a, ok := arrayOf(w)
	if !ok {
		return nil
	}
	n := len(w)
	for n > 1 && a[n-1] == n-1 {
		n--
	}
	return a.list(n)
}

func RankAt(w []int, r int, c int) int {
	a, ok := arrayOf(w)
	if !ok || r < 0 || r > len(w) || c < 0 || c > len(w) {
		return -1
	}
	return a.rank(r, c)
}

func IsBelowPerm(u []int, v []int) bool {
	a, uOk := arrayOf(u)
	b, vOk := arrayOf(v)
	if !uOk || !vOk || len(u) != len(v) {
		return false
	}
	for r := range len(u) + 1 {
		for c := range len(u) + 1 {
			if a.rank(r, c) < b.rank(r, c) {
				return false
			}
		}
	}
	return true
}

func CoversOf(w []int) [][]int {
	a, ok := arrayOf(w)
	if !ok {
		return nil
	}
	var covers [][]int
	for j := range len(w) {
		for i := range j {
			if a.isCoveredAt(i, j) {
				covers = append(covers, a.exchanged(i, j).list(len(w)))
			}
		}
	}
	slices.SortFunc(covers, slices.Compare)
	return covers
}

func DiagramOf(w []int) []Cell {
	a, ok := arrayOf(w)
	if !ok {
		return nil
	}
	placeOf := a.inverse()
	var cells []Cell
	for i := range len(w) {
		for j := range a[i] {
			if placeOf[j] > i {
				cells = append(cells, Cell{Row: i, Col: j})
			}
		}
	}
	return cells
}

func EssentialOf(w []int) []Cell {
	cells := DiagramOf(w)
	var essential []Cell
	for _, cell := range cells {
		below := Cell{Row: cell.Row + 1, Col: cell.Col}
		right := Cell{Row: cell.Row, Col: cell.Col + 1}
		if !slices.Contains(cells, below) && !slices.Contains(cells, right) {
			essential = append(essential, cell)
		}
	}
	return essential
}

// isWord reports whether n is a size and word is a word for n.
func isWord(n int, word []int) bool {
	if !isPermSize(n) || len(word) > MaxWord {
		return false
	}
	for _, k := range word {
		if k < 0 || k > n-2 {
			return false
		}
	}
	return true
}

func WordPerm(n int, word []int) []int {
	if !isWord(n, word) {
		return nil
	}
	a := identityArray()
	for _, k := range word {
		a = a.exchanged(k, k+1)
	}
	return a.list(n)
}

// isReducedWord reports whether word is a word for n, and a reduced one.
func isReducedWord(n int, word []int) bool {
	return LengthOf(WordPerm(n, word)) == len(word)
}

func DemazurePerm(n int, word []int) []int {
	if !isWord(n, word) {
		return nil
	}
	a := identityArray()
	for _, k := range word {
		if !a.isDescent(k) {
			a = a.exchanged(k, k+1)
		}
	}
	return a.list(n)
}

func ReducedWords(w []int) ([][]int, bool) {
	if count := CountReduced(w); count < 0 || count > MaxWords {
		return nil, false
	}
	a, _ := arrayOf(w)
	return appendReduced(nil, nil, a.inverse()), true
}

// appendReduced appends, in ascending order, the words that go on from the
// beginning with a reduced word of the permutation with this inverse. It goes by
// the inverse because the descents of it are the first swaps of those words.
func appendReduced(words [][]int, beginning []int, inverse permArray) [][]int {
	if inverse == identityArray() {
		return append(words, slices.Clone(beginning))
	}
	for k := range MaxN - 1 {
		if inverse.isDescent(k) {
			words = appendReduced(words, append(beginning, k), inverse.exchanged(k, k+1))
		}
	}
	return words
}

func CountReduced(w []int) int {
	a, ok := arrayOf(w)
	if !ok {
		return -1
	}
	return countReduced(a, map[permArray]int{identityArray(): 1})
}

// countReduced adds the counts for each last swap. The counts that are known are
// kept, as there are far more reduced words than permutations.
func countReduced(a permArray, known map[permArray]int) int {
	if count, ok := known[a]; ok {
		return count
	}
	count := 0
	for k := range MaxN - 1 {
		if a.isDescent(k) {
			count += countReduced(a.exchanged(k, k+1), known)
		}
	}
	known[a] = count
	return count
}

func HasPattern(w []int, p []int) bool {
	a, wOk := arrayOf(w)
	pattern, pOk := arrayOf(p)
	if !wOk || !pOk {
		return false
	}
	for places := range uint(1) << len(w) {
		if bits.OnesCount(places) == len(p) && a.flattened(places) == pattern {
			return true
		}
	}
	return false
}

func IsVexillary(w []int) bool {
	return IsPerm(w) && !HasPattern(w, []int{1, 0, 3, 2})
}

func IsGrassmannian(w []int) bool {
	return IsPerm(w) && len(DescentsOf(w)) <= 1
}

func FormatPerm(w []int) string {
	if !IsPerm(w) {
		return ""
	}
	text := make([]byte, len(w))
	for i, x := range w {
		text[i] = byte('1' + x)
	}
	return string(text)
}

func ParsePerm(s string) ([]int, bool) {
	if !isPermSize(len(s)) {
		return nil, false
	}
	w := make([]int, len(s))
	for i := range w {
		w[i] = int(s[i]) - '1'
	}
	if !IsPerm(w) {
		return nil, false
	}
	return w, true
}
