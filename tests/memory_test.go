package tests

import (
	"os"
	"reflect"
	"runtime/debug"
	"testing"
)

// The tests make much that is needed once: it is collected less often than by default, which takes half of their time.
func TestMain(m *testing.M) {
	debug.SetGCPercent(500)
	os.Exit(m.Run())
}

// memory is what a slice has, with its spare capacity.
type memory struct {
	from, to uintptr
	of       string
}

func (m memory) meets(o memory) bool { return m.from < o.to && o.from < m.to }

// memoriesOf returns the memory of each slice in a value.
func memoriesOf(v reflect.Value) []memory {
	var list []memory
	switch v.Kind() {
	case reflect.Slice:
		if bytes := uintptr(v.Cap()) * v.Type().Elem().Size(); bytes > 0 {
			list = append(list, memory{v.Pointer(), v.Pointer() + bytes, v.Type().String()})
		}
		for i := range v.Len() {
			list = append(list, memoriesOf(v.Index(i))...)
		}
	case reflect.Struct:
		for i := range v.NumField() {
			list = append(list, memoriesOf(v.Field(i))...)
		}
	}
	return list
}

// checkUnshared checks that no two slices of a result, and none of it and of an argument, share memory.
func checkUnshared(t *testing.T, result any, args ...any) {
	t.Helper()
	own := memoriesOf(reflect.ValueOf(result))
	ofArgs := make([][]memory, len(args))
	for i, arg := range args {
		ofArgs[i] = memoriesOf(reflect.ValueOf(arg))
	}
	for i, m := range own {
		for _, o := range own[:i] {
			if m.meets(o) {
				t.Errorf("a %s and a %s of the result %v share memory", m.of, o.of, result)
			}
		}
		for n, arg := range ofArgs {
			for _, o := range arg {
				if m.meets(o) {
					t.Errorf("a %s of the result %v shares memory with a %s of the argument %v", m.of, result, o.of, args[n])
				}
			}
		}
	}
}

// same reports whether two values are the same, where a nil slice is an empty one.
func same(a, b any) bool { return sameValues(reflect.ValueOf(a), reflect.ValueOf(b)) }

func sameValues(a, b reflect.Value) bool {
	switch a.Kind() {
	case reflect.Slice:
		if a.Len() != b.Len() {
			return false
		}
		for i := range a.Len() {
			if !sameValues(a.Index(i), b.Index(i)) {
				return false
			}
		}
		return true
	case reflect.Struct:
		for i := range a.NumField() {
			if !sameValues(a.Field(i), b.Field(i)) {
				return false
			}
		}
		return true
	}
	return a.Equal(b)
}

func checkSame(t *testing.T, what string, got, want any) {
	t.Helper()
	if !same(got, want) {
		t.Errorf("%s is %#v, not %#v", what, got, want)
	}
}
