package tests

import (
	"reflect"
	"runtime"
	"testing"
	"time"
)

const roomBehind = 3

// withRoom copies a value; all of its lists get room behind their ends, with something in it.
func withRoom[T any](value T) T {
	return roomed(reflect.ValueOf(value)).Interface().(T)
}

func roomed(v reflect.Value) reflect.Value {
	out := reflect.New(v.Type()).Elem()
	switch v.Kind() {
	case reflect.Struct:
		for i := range v.NumField() {
			out.Field(i).Set(roomed(v.Field(i)))
		}
	case reflect.Slice:
		all := reflect.MakeSlice(v.Type(), 0, v.Len()+roomBehind)
		for i := range v.Len() {
			all = reflect.Append(all, roomed(v.Index(i)))
		}
		for range roomBehind {
			all = reflect.Append(all, sentinel(v.Type().Elem()))
		}
		out.Set(all.Slice(0, v.Len()))
	default:
		out.Set(v)
	}
	return out
}

// sentinel is a value of a type of which no part is nothing.
func sentinel(t reflect.Type) reflect.Value {
	out := reflect.New(t).Elem()
	switch t.Kind() {
	case reflect.Struct:
		for i := range t.NumField() {
			out.Field(i).Set(sentinel(t.Field(i).Type))
		}
	case reflect.Slice:
		out.Set(reflect.Append(reflect.MakeSlice(t, 0, 1), sentinel(t.Elem())))
	case reflect.String:
		out.SetString("behind")
	case reflect.Int:
		out.SetInt(99)
	case reflect.Bool:
		out.SetBool(true)
	}
	return out
}

// opened copies a value with all its lists as long as their memory is, so that two of them can be held against each other.
func opened(value any) any {
	return openedValue(reflect.ValueOf(value)).Interface()
}

func openedValue(v reflect.Value) reflect.Value {
	out := reflect.New(v.Type()).Elem()
	switch v.Kind() {
	case reflect.Struct:
		for i := range v.NumField() {
			out.Field(i).Set(openedValue(v.Field(i)))
		}
	case reflect.Slice:
		all := reflect.MakeSlice(v.Type(), 0, v.Cap())
		for i := range v.Cap() {
			all = reflect.Append(all, openedValue(v.Slice(0, v.Cap()).Index(i)))
		}
		out.Set(all)
	default:
		out.Set(v)
	}
	return out
}

// stretch is the memory of one list, from its first byte to behind its last one.
type stretch struct {
	from, to uintptr
}

// stretches tells the memory of all lists of a value, those in spare room included.
func stretches(v reflect.Value) []stretch {
	var out []stretch
	switch v.Kind() {
	case reflect.Struct:
		for i := range v.NumField() {
			out = append(out, stretches(v.Field(i))...)
		}
	case reflect.Slice:
		if size := uintptr(v.Cap()) * v.Type().Elem().Size(); size > 0 {
			out = append(out, stretch{v.Pointer(), v.Pointer() + size})
		}
		for i := range v.Cap() {
			out = append(out, stretches(v.Slice(0, v.Cap()).Index(i))...)
		}
	}
	return out
}

// wantApart asks that no two lists of an answer share memory, and that none shares any with a list of an argument.
func wantApart(t *testing.T, what string, answer any, arguments ...any) {
	t.Helper()
	mine := stretches(reflect.ValueOf(answer))
	var theirs []stretch
	for _, a := range arguments {
		theirs = append(theirs, stretches(reflect.ValueOf(a))...)
	}
	for i, s := range mine {
		for _, other := range append(mine[:i:i], theirs...) {
			if s.from < other.to && other.from < s.to {
				t.Errorf("%s: an answer shares memory: %+v", what, answer)
				return
			}
		}
	}
}

// wantUntouched asks that a value is, to the ends of its memory, what it was when it was opened.
func wantUntouched(t *testing.T, what string, value any, before any) {
	t.Helper()
	if now := opened(value); !reflect.DeepEqual(now, before) {
		t.Errorf("%s: an argument is now %+v,\nnot %+v", what, now, before)
	}
}

// wantNobodyLeft asks that no more goroutines are there than were before. One that has told that it has ended may be
// there for a moment longer, and on a busy machine that moment is long.
func wantNobodyLeft(t *testing.T, before int) {
	t.Helper()
	for range 10000 {
		if runtime.NumGoroutine() <= before {
			return
		}
		time.Sleep(time.Millisecond)
	}
	t.Errorf("there were %d goroutines, and now there are %d", before, runtime.NumGoroutine())
}
