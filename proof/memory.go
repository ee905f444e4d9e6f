package proof

import (
	"reflect"
	"slices"
)

// Apart tells whether no two lists, in whatever there is, have memory in common, spare room behind their ends too.
func Apart(things ...any) bool {
	var all [][2]uintptr
	for _, thing := range things {
		all = append(all, rooms(reflect.ValueOf(thing))...)
	}
	slices.SortFunc(all, func(a, b [2]uintptr) int {
		if a[0] < b[0] {
			return -1
		}
		return 1
	})
	for i := 1; i < len(all); i++ {
		if all[i][0] < all[i-1][1] {
			return false
		}
	}
	return true
}

// rooms are where lists begin and end, with their spare room.
func rooms(v reflect.Value) [][2]uintptr {
	var all [][2]uintptr
	switch v.Kind() {
	case reflect.Slice:
		if v.Cap() > 0 {
			all = append(all, [2]uintptr{v.Pointer(), v.Pointer() + uintptr(v.Cap())*v.Type().Elem().Size()})
		}
		for i := range v.Len() {
			all = append(all, rooms(v.Index(i))...)
		}
	case reflect.Struct:
		for i := range v.NumField() {
			all = append(all, rooms(v.Field(i))...)
		}
	}
	return all
}
