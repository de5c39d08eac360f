package tests

import (
	"fmt"
	"math"
	"reflect"
	"strings"
	"testing"

	"loop.example/g03113/impl"
)

// call is one call of a function: a function value, and the arguments for it.
type call struct {
	name string
	fn   any
	args []any
}

// roomy copies a value. Its slices get unused capacity with marks in it, so that
// writing there is seen, too.
func roomy(v reflect.Value) reflect.Value {
	w := reflect.New(v.Type()).Elem()
	w.Set(v)
	switch v.Kind() {
	case reflect.Struct:
		for i := range v.NumField() {
			w.Field(i).Set(roomy(v.Field(i)))
		}
	case reflect.Slice:
		if v.IsNil() {
			return w
		}
		const room = 5
		w.Set(reflect.MakeSlice(v.Type(), v.Len()+room, v.Len()+room))
		for i := range v.Len() {
			w.Index(i).Set(roomy(v.Index(i)))
		}
		for i := range room {
			overwrite(w.Index(v.Len() + i))
		}
		w.Set(w.Slice(0, v.Len()))
	}
	return w
}

// overwrite puts another value in the place of one.
func overwrite(v reflect.Value) {
	switch v.Kind() {
	case reflect.Int:
		v.SetInt(v.Int()*3 + 1001)
	case reflect.String:
		v.SetString(v.String() + "?")
	case reflect.Bool:
		v.SetBool(!v.Bool())
	case reflect.Struct:
		for i := range v.NumField() {
			overwrite(v.Field(i))
		}
	case reflect.Slice:
		v.Set(reflect.Zero(v.Type()))
	}
}

// memoryOf returns all slices within values, each as far as its capacity goes.
func memoryOf(values []reflect.Value) []reflect.Value {
	var found []reflect.Value
	for _, v := range values {
		switch v.Kind() {
		case reflect.Struct:
			for i := range v.NumField() {
				found = append(found, memoryOf([]reflect.Value{v.Field(i)})...)
			}
		case reflect.Slice:
			if v.Cap() > 0 {
				found = append(found, v.Slice(0, v.Cap()))
			}
			for i := range v.Len() {
				found = append(found, memoryOf([]reflect.Value{v.Index(i)})...)
			}
		}
	}
	return found
}

func overwriteAll(memory []reflect.Value) {
	for _, m := range memory {
		for i := range m.Len() {
			overwrite(m.Index(i))
		}
	}
}

func textOf(values []reflect.Value) string {
	var b strings.Builder
	for _, v := range values {
		fmt.Fprintln(&b, v)
	}
	return b.String()
}

func (c call) roomyArgs() []reflect.Value {
	in := make([]reflect.Value, len(c.args))
	for i := range in {
		in[i] = roomy(reflect.ValueOf(c.args[i]))
	}
	return in
}

func (c call) title() string { return c.name + " of " + brief(append([]any{}, c.args...)...) }

// checkPure checks that a call changes no argument, that neither arguments nor
// results are kept, and that results share no memory with arguments or with each
// other.
func checkPure(t *testing.T, c call) {
	t.Helper()
	fn := reflect.ValueOf(c.fn)
	in := c.roomyArgs()
	before := textOf(memoryOf(in))
	out := fn.Call(in)
	want := textOf(out)
	is(t, c.title()+": the arguments behind the call", textOf(memoryOf(in)), before)
	memory := append(memoryOf(in), memoryOf(out)...)
	checkApart(t, c, memory)
	overwriteAll(memory)
	is(t, c.title()+": the results of one more call", textOf(fn.Call(c.roomyArgs())), want)
}

func checkApart(t *testing.T, c call, memory []reflect.Value) {
	t.Helper()
	size := func(m reflect.Value) uintptr { return uintptr(m.Len()) * m.Type().Elem().Size() }
	for j, b := range memory {
		for _, a := range memory[:j] {
			if a.Pointer() < b.Pointer()+size(b) && b.Pointer() < a.Pointer()+size(a) {
				t.Errorf("%s: arguments or results share memory: %v, %v", c.title(), a, b)
				return
			}
		}
	}
}

func hardInts() []any {
	return []any{math.MinInt, math.MinInt + 1, -8, -1, 0, 1, 2, 3, 6, 7, 8, 64, 1 << 32, math.MaxInt - 1, math.MaxInt}
}

func hardLists() []any {
	return []any{
		[]int(nil), []int{}, []int{0}, []int{1, 0}, []int{2, 0, 1}, []int{6, 5, 4, 3, 2, 1, 0}, []int{7, 6, 5, 4, 3, 2, 1, 0}, []int{-1}, []int{7}, []int{0, 0},
		[]int{math.MaxInt}, []int{math.MinInt}, []int{math.MinInt, math.MaxInt, 0}, []int{0, 1 << 32}, []int{5, 5, 5, 5, 5, 5, 5}, repeated(0, 60), repeated(5, 61), repeated(0, 100000),
		ascending(100000), repeated(math.MaxInt, 1000), repeated(math.MinInt, 1000),
	}
}

func hardTexts() []any {
	return []any{"", " ", "0", "1", "21", "7654321", "87654321", "-", "1 -2 3", "\x00", "\xff\xfe", "\u0661", strings.Repeat("1", 100000), strings.Repeat("1 ", 100000), strings.Repeat(" ", 100000)}
}

// checkTotal calls a function with all choices of hard arguments: it must return.
func checkTotal(t *testing.T, name string, fn any) {
	t.Helper()
	choices := [][]any{nil}
	f := reflect.TypeOf(fn)
	for i := range f.NumIn() {
		var hard []any
		switch f.In(i) {
		case reflect.TypeFor[int]():
			hard = hardInts()
		case reflect.TypeFor[[]int]():
			hard = hardLists()
		case reflect.TypeFor[string]():
			hard = hardTexts()
		case reflect.TypeFor[[]impl.Term]():
			hard = hardPolys()
		case reflect.TypeFor[[]impl.Cell]():
			hard = hardCells()
		case reflect.TypeFor[[]impl.Class]():
			hard = hardSums()
		case reflect.TypeFor[[][]int]():
			hard = hardRows()
		case reflect.TypeFor[[]impl.Part]():
			hard = hardParts()
		case reflect.TypeFor[impl.Puzzle]():
			hard = hardPuzzles()
		case reflect.TypeFor[[]impl.QPart]():
			hard = hardQParts()
		case reflect.TypeFor[impl.Matrix]():
			hard = hardMatrices()
		case reflect.TypeFor[impl.Session]():
			hard = hardSessions()
		case reflect.TypeFor[[]string]():
			hard = hardLines()
		default:
			t.Fatalf("%s: there are no hard arguments of the type %v", name, f.In(i))
		}
		var longer [][]any
		for _, choice := range choices {
			for _, v := range hard {
				longer = append(longer, append(append([]any{}, choice...), v))
			}
		}
		choices = longer
	}
	for _, choice := range choices {
		checkReturns(t, call{name, fn, choice})
	}
}

func checkReturns(t *testing.T, c call) {
	t.Helper()
	defer func() {
		if p := recover(); p != nil {
			t.Errorf("%s panics: %v", c.title(), p)
		}
	}()
	in := make([]reflect.Value, len(c.args))
	for i := range in {
		in[i] = reflect.ValueOf(c.args[i])
	}
	reflect.ValueOf(c.fn).Call(in)
}
