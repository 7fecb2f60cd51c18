package purity_test

import "reflect"

// spare is the number of elements that copies have behind the end of each slice.
const spare = 2

// copies returns deep copies of the values, in which slices have room behind their ends: a function that appends to an argument writes into it.
func copies(values []any) []any {
	var c []any
	for _, v := range values {
		c = append(c, deep(reflect.ValueOf(v), roomy).Interface())
	}
	return c
}

// whole returns deep copies of the values, in which slices extend to the ends of their memory.
func whole(values []any) []any {
	var c []any
	for _, v := range values {
		c = append(c, deep(reflect.ValueOf(v), extended).Interface())
	}
	return c
}

// roomy returns a slice with the elements of s and room behind them.
func roomy(s reflect.Value) reflect.Value {
	room := reflect.MakeSlice(s.Type(), s.Len(), s.Len()+spare)
	reflect.Copy(room, s)
	return room
}

// extended returns a slice with all elements of the memory of s.
func extended(s reflect.Value) reflect.Value {
	all := reflect.MakeSlice(s.Type(), s.Cap(), s.Cap())
	reflect.Copy(all, s.Slice(0, s.Cap()))
	return all
}

// deep returns a deep copy of v whose slices are made by remake.
func deep(v reflect.Value, remake func(reflect.Value) reflect.Value) reflect.Value {
	c := reflect.New(v.Type()).Elem()
	switch v.Kind() {
	case reflect.Slice:
		if v.IsNil() {
			return c
		}
		c.Set(remake(v))
		for i := range c.Len() {
			c.Index(i).Set(deep(c.Index(i), remake))
		}
	case reflect.Struct:
		for i := range v.NumField() {
			c.Field(i).Set(deep(v.Field(i), remake))
		}
	case reflect.Map:
		c.Set(reflect.MakeMap(v.Type()))
		for _, k := range v.MapKeys() {
			c.SetMapIndex(k, deep(v.MapIndex(k), remake))
		}
	default:
		c.Set(v)
	}
	return c
}

// overwrite changes all of the memory that a caller can reach through v.
func overwrite(v reflect.Value) {
	switch v.Kind() {
	case reflect.Interface:
		overwrite(v.Elem())
	case reflect.Slice:
		all := v.Slice(0, v.Cap())
		for i := range all.Len() {
			overwrite(all.Index(i))
		}
	case reflect.Struct:
		for i := range v.NumField() {
			overwrite(v.Field(i))
		}
	case reflect.Map:
		v.Clear()
	}
	if !v.CanSet() {
		return
	}
	switch {
	case v.CanInt():
		v.SetInt(^v.Int())
	case v.CanUint():
		v.SetUint(^v.Uint())
	case v.Kind() == reflect.Bool:
		v.SetBool(!v.Bool())
	case v.Kind() == reflect.String:
		v.SetString(v.String() + "!")
	}
}

// region is a part of the memory, from the address from up to but without the address to.
type region struct{ from, to uintptr }

// overlap reports whether two slices or maps in the values share memory.
func overlap(values []any) bool {
	var l []region
	for _, v := range values {
		l = append(l, regions(reflect.ValueOf(v))...)
	}
	for i, a := range l {
		for _, b := range l[:i] {
			if a.from < b.to && b.from < a.to {
				return true
			}
		}
	}
	return false
}

// regions returns the memory of the slices and maps in v.
func regions(v reflect.Value) []region {
	var l []region
	switch v.Kind() {
	case reflect.Slice:
		if v.Cap() > 0 {
			size := uintptr(v.Cap()) * v.Type().Elem().Size()
			l = append(l, region{v.Pointer(), v.Pointer() + size})
		}
		for i := range v.Len() {
			l = append(l, regions(v.Index(i))...)
		}
	case reflect.Struct:
		for i := range v.NumField() {
			l = append(l, regions(v.Field(i))...)
		}
	case reflect.Map:
		l = append(l, region{v.Pointer(), v.Pointer() + 1})
		for _, k := range v.MapKeys() {
			l = append(l, regions(v.MapIndex(k))...)
		}
	}
	return l
}
