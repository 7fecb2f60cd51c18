// Package purity_test checks for all layers what the general rules say of every function: arguments are neither changed nor kept, results are new memory (R5), equal calls give equal results (R6), and with an error or "none" the other results are zero (R3).
package purity_test

import (
	"reflect"
	"runtime"
	"testing"

	"geoprover/api"
)

// samples is arguments by their type.
type samples map[reflect.Type][]any

// add adds the values to the samples of their types.
func (s samples) add(values ...any) {
	for _, v := range values {
		s[reflect.TypeOf(v)] = append(s[reflect.TypeOf(v)], v)
	}
}

// checkAll checks the functions with all combinations of samples as arguments.
func checkAll(t *testing.T, s samples, functions ...any) {
	t.Helper()
	for _, f := range functions {
		kind := reflect.TypeOf(f)
		lists := [][]any{{}}
		for i := range kind.NumIn() {
			var longer [][]any
			for _, list := range lists {
				for _, v := range s[kind.In(i)] {
					longer = append(longer, append(list[:len(list):len(list)], v))
				}
			}
			lists = longer
		}
		if len(lists) == 0 {
			t.Errorf("there are no arguments for %s", nameOf(f))
		}
		for _, list := range lists {
			check(t, f, list...)
		}
	}
}

// nameOf returns the name of the function f.
func nameOf(f any) string { return runtime.FuncForPC(reflect.ValueOf(f).Pointer()).Name() }

// check calls f with the arguments, twice, and checks the rules.
func check(t *testing.T, f any, args ...any) {
	t.Helper()
	first, before := copies(args), copies(args)
	results := call(f, first)
	if !reflect.DeepEqual(whole(first), whole(before)) {
		t.Fatalf("%s changes its arguments %v", nameOf(f), args)
	}
	if overlap(results) {
		t.Fatalf("results of %s for %v share memory with one another", nameOf(f), args)
	}
	kept := copies(results)
	overwrite(reflect.ValueOf(results))
	if !reflect.DeepEqual(whole(first), whole(before)) {
		t.Fatalf("results of %s share memory with its arguments %v", nameOf(f), args)
	}
	overwrite(reflect.ValueOf(first))
	again := call(f, before)
	if !reflect.DeepEqual(kept, again) {
		t.Fatalf("%s returns different results for %v", nameOf(f), args)
	}
	if !zeroIfNone(again) {
		t.Fatalf("%s fails for %v, but returns %v", nameOf(f), args, again)
	}
}

// call returns the results of f for the arguments.
func call(f any, args []any) []any {
	var in []reflect.Value
	for _, a := range args {
		in = append(in, reflect.ValueOf(a))
	}
	var results []any
	for _, r := range reflect.ValueOf(f).Call(in) {
		results = append(results, r.Interface())
	}
	return results
}

// zeroIfNone reports whether all results are zero if the last one, of several, is an error or false.
func zeroIfNone(results []any) bool {
	if len(results) < 2 {
		return true
	}
	last := results[len(results)-1]
	if e, ok := last.(api.Errno); last != false && (!ok || e == api.OK) {
		return true
	}
	for _, r := range results[:len(results)-1] {
		v := reflect.ValueOf(r)
		if !v.IsZero() && !(v.Kind() == reflect.Slice && v.Len() == 0) {
			return false
		}
	}
	return true
}
