// Package tests holds the tests of the layers from 10 on: they share what makes
// programs and register code, and what looks at memory.
package tests

import (
	"cmp"
	"reflect"
	"slices"
	"testing"
	"unsafe"
)

// widened is x with lists of its own, each with spare room for one more, in
// which a mark is.
func widened[T any](x T) T {
	widen(reflect.ValueOf(&x).Elem())
	return x
}

func widen(v reflect.Value) {
	switch v.Kind() {
	case reflect.Struct:
		for k := range v.NumField() {
			widen(v.Field(k))
		}
	case reflect.Slice:
		list := reflect.MakeSlice(v.Type(), v.Len()+1, v.Len()+1)
		reflect.Copy(list, v)
		for k := range v.Len() {
			widen(list.Index(k))
		}
		mark(list.Index(v.Len()))
		v.Set(list.Slice(0, v.Len()))
	}
}

func mark(v reflect.Value) {
	switch v.Kind() {
	case reflect.Struct:
		for k := range v.NumField() {
			mark(v.Field(k))
		}
	case reflect.Int:
		v.SetInt(91)
	case reflect.Bool:
		v.SetBool(true)
	}
}

// isWide tells whether the marks of widened are there still.
func isWide(x any) bool {
	wide := true
	eachList(reflect.ValueOf(x), func(list reflect.Value) {
		n := list.Len()
		spare := reflect.New(list.Type().Elem()).Elem()
		mark(spare)
		wide = wide && list.Cap() == n+1 && reflect.DeepEqual(list.Slice(0, n+1).Index(n).Interface(), spare.Interface())
	})
	return wide
}

// same takes an empty list and nil as one.
func same[T any](a, b T) bool {
	return reflect.DeepEqual(widened(a), widened(b))
}

// eachList shows all lists in v, and the lists in these.
func eachList(v reflect.Value, show func(list reflect.Value)) {
	switch v.Kind() {
	case reflect.Struct:
		for k := range v.NumField() {
			eachList(v.Field(k), show)
		}
	case reflect.Slice:
		show(v)
		for k := range v.Len() {
			eachList(v.Index(k), show)
		}
	}
}

// piece is the memory of a list, its spare room too.
type piece struct{ from, to uintptr }

// expectApart holds that no two lists in all of these share memory.
func expectApart(t *testing.T, all ...any) {
	t.Helper()
	if !areApart(all...) {
		t.Errorf("R4: two lists share memory: %v", all)
	}
}

func areApart(all ...any) bool {
	var pieces []piece
	for _, x := range all {
		eachList(reflect.ValueOf(x), func(list reflect.Value) {
			from := uintptr(unsafe.Pointer(list.UnsafePointer()))
			// Lists without room share nothing, wherever they are.
			if to := from + uintptr(list.Cap())*list.Type().Elem().Size(); to > from {
				pieces = append(pieces, piece{from, to})
			}
		})
	}
	slices.SortFunc(pieces, func(x, y piece) int { return cmp.Compare(x.from, y.from) })
	for k := 1; k < len(pieces); k++ {
		if pieces[k].from < pieces[k-1].to {
			return false
		}
	}
	return true
}

// expectUnchanged holds what widened gave against what it was made of.
func expectUnchanged[T any](t *testing.T, given T, before T) {
	t.Helper()
	if !same(given, before) || !isWide(given) {
		t.Errorf("R4: what was handed in, or its spare room, is changed: %v", given)
	}
}

// TestMemory holds that what looks at memory sees it.
func TestMemory(t *testing.T) {
	type part struct{ List []int }
	shared := []int{1, 2, 3}
	if areApart(shared, shared[2:]) || areApart([][]int{shared}, part{shared}) || areApart(part{shared[:0]}, shared[1:]) {
		t.Error("shared memory is not seen")
	}
	if !areApart(shared[:1:1], shared[1:]) || !areApart(shared[:0:0], shared) || !areApart(shared, part{}) {
		t.Error("memory is seen as shared that is not")
	}
	lists := [][]int{{1, 2}, nil}
	if !isWide(widened(lists)) || !same(widened(lists), [][]int{{1, 2}, {}}) || same(lists, [][]int{{1, 3}, nil}) {
		t.Error("widened is not what it is made of")
	}
	spoilt := widened(lists)
	_ = append(spoilt[0], 92)
	if isWide(spoilt) || isWide(lists) {
		t.Error("a changed mark is not seen")
	}
}
