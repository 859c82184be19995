package tests

import (
	"reflect"
	"slices"
	"testing"
)

// span is the memory of one list, the room behind its end as well.
type span struct{ from, to uintptr }

// spansOf are those of all lists in a value, however deep.
func spansOf(v reflect.Value) []span {
	var list []span
	switch v.Kind() {
	case reflect.Slice:
		if v.Cap() > 0 {
			list = append(list, span{v.Pointer(), v.Pointer() + uintptr(v.Cap())*v.Type().Elem().Size()})
		}
		for i := range v.Len() {
			list = append(list, spansOf(v.Index(i))...)
		}
	case reflect.Struct:
		for i := range v.NumField() {
			list = append(list, spansOf(v.Field(i))...)
		}
	}
	return list
}

// apart asks that no two lists of an answer share memory, and none shares it with what was handed in.
func apart(t *testing.T, name string, answer, handed []any) {
	t.Helper()
	var own, theirs []span
	for _, one := range answer {
		own = append(own, spansOf(reflect.ValueOf(one))...)
	}
	for _, one := range handed {
		theirs = append(theirs, spansOf(reflect.ValueOf(one))...)
	}
	for i, a := range own {
		meets := func(b span) bool { return a.from < b.to && b.from < a.to }
		if slices.ContainsFunc(own[:i], meets) {
			t.Error(name, "two lists of the answer share memory")
		}
		if slices.ContainsFunc(theirs, meets) {
			t.Error(name, "the answer shares memory with what was handed in")
		}
	}
}

// roomy is a copy whose lists all have room behind their ends, filled with what is none.
func roomy[T any](value T) T {
	return copyRoomy(reflect.ValueOf(value)).Interface().(T)
}

func copyRoomy(v reflect.Value) reflect.Value {
	is := reflect.New(v.Type()).Elem()
	is.Set(v)
	switch v.Kind() {
	case reflect.Slice:
		is.Set(reflect.MakeSlice(v.Type(), v.Len()+3, v.Len()+3))
		for i := range is.Len() {
			if i < v.Len() {
				is.Index(i).Set(copyRoomy(v.Index(i)))
			} else {
				fillWithNone(is.Index(i))
			}
		}
		is.SetLen(v.Len())
	case reflect.Struct:
		for i := range v.NumField() {
			is.Field(i).Set(copyRoomy(v.Field(i)))
		}
	}
	return is
}

func fillWithNone(v reflect.Value) {
	switch v.Kind() {
	case reflect.Int:
		v.SetInt(-7)
	case reflect.Struct:
		for i := range v.NumField() {
			fillWithNone(v.Field(i))
		}
	}
}

// whole is a copy whose lists go on to the ends of their room, so that what stands there can be compared.
func whole(v reflect.Value) reflect.Value {
	is := reflect.New(v.Type()).Elem()
	is.Set(v)
	switch v.Kind() {
	case reflect.Slice:
		is.Set(reflect.MakeSlice(v.Type(), v.Cap(), v.Cap()))
		for i := range v.Cap() {
			is.Index(i).Set(whole(v.Slice(0, v.Cap()).Index(i)))
		}
	case reflect.Struct:
		for i := range v.NumField() {
			is.Field(i).Set(whole(v.Field(i)))
		}
	}
	return is
}

// wholeOf is what stands in several values, the room of their lists as well.
func wholeOf(values ...any) []any {
	var list []any
	for _, one := range values {
		list = append(list, whole(reflect.ValueOf(one)).Interface())
	}
	return list
}
