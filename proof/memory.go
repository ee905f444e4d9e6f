package proof

import (
	"fmt"
	"reflect"
	"slices"

	"reticule/api"
)

// Apart tells whether no two lists, in whatever there is, have memory in common, spare room behind their ends too.
func Apart(things ...any) bool {
	var all [][2]uintptr
	for _, thing := range things {
		all = append(all, rooms(reflect.ValueOf(thing))...)
	}
	slices.SortFunc(all, func(a, b [2]uintptr) int {
		if a[0] < b[0] {
			return -1
		}
		return 1
	})
	for i := 1; i < len(all); i++ {
		if all[i][0] < all[i-1][1] {
			return false
		}
	}
	return true
}

// rooms are where lists begin and end, with their spare room.
func rooms(v reflect.Value) [][2]uintptr {
	var all [][2]uintptr
	switch v.Kind() {
	case reflect.Slice:
		if v.Cap() > 0 {
			all = append(all, [2]uintptr{v.Pointer(), v.Pointer() + uintptr(v.Cap())*v.Type().Elem().Size()})
		}
		for i := range v.Len() {
			all = append(all, rooms(v.Index(i))...)
		}
	case reflect.Struct:
		for i := range v.NumField() {
			all = append(all, rooms(v.Field(i))...)
		}
	}
	return all
}

// Shared tells what is not as it should be of a call that makes a program of another one: what is handed in stays, and what comes out shares nothing with it, nor with what came out ahead; empty, if all is.
func Shared(from api.Program, call func(api.Program) (api.Program, api.Errno)) string {
	p := Program(from)
	whole := Whole(p)
	first, wrong := call(p)
	second, _ := call(p)
	was := fmt.Sprint(second)
	if Whole(p) != whole {
		return "what was handed in changed"
	}
	if !Apart(p, first, second) {
		return "lists have memory in common"
	}
	spoilAll(first)
	if third, again := call(p); again != wrong || fmt.Sprint(second) != was || fmt.Sprint(third) != was || Whole(p) != whole {
		return "what was answered changes something"
	}
	fourth, _ := call(p)
	spoilAll(p)
	if fmt.Sprint(fourth) != was {
		return "what was answered changed"
	}
	return ""
}

// spoilAll fills all lists of a program, and the spare room behind their ends.
func spoilAll(p api.Program) {
	for _, e := range p.Exprs {
		Spoil(e.Kids, 99)
	}
	for _, s := range p.Stmts {
		Spoil(s.Acts, api.Act{Name: "spoilt"})
		Spoil(s.Then, 99)
		Spoil(s.Else, 99)
	}
	Spoil(p.Decls, api.Decl{Name: "spoilt"})
	Spoil(p.Exprs, api.Expr{Name: "spoilt"})
	Spoil(p.Stmts, api.Stmt{Name: "spoilt"})
	Spoil(p.Main, 99)
}
