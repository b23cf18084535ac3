package tree_test

import (
	"reflect"
	"slices"
	"strings"
	"testing"
	"unsafe"

	"armillary/api"
	"armillary/tree"
)

// full is a module in which no field and no list is empty everywhere.
func full() api.Module {
	return api.Module{
		Name: "m", Imports: []string{"a", "b"},
		Types: []api.Decl{{Name: "T", Type: 1}, {Name: "U", Type: 2}},
		Fns: []api.Fn{
			{Name: "f", Vars: []api.Var{{Name: "A", Type: 3}, {Name: "B", Type: 4}}, Params: []api.Var{{Name: "x", Type: 5}, {Name: "y", Type: 6}}, Ret: 7, Body: 8},
			{Name: "g", Ret: 9, Body: 10},
		},
		Nodes: []api.Node{{Kind: api.ECall, Num: 1, Mod: "b", Name: "f", Keys: []string{"k", "l"}, L: []int{1, 2, 3}}, {Kind: -1, Num: -2, L: []int{-3}}, {Kind: api.ENull}},
	}
}

// eachChange calls with each way in which something in v can differ: another number or string, a list that is shorter or longer. Behind each call v is as it was.
func eachChange(v reflect.Value, call func()) {
	switch v.Kind() {
	case reflect.Int:
		was := v.Int()
		for _, n := range []int64{was + 1, -1 - was} {
			v.SetInt(n)
			call()
		}
		v.SetInt(was)
	case reflect.String:
		was := v.String()
		for _, s := range []string{was + "z", was + "\x00", strings.ToUpper(was) + "_"} {
			v.SetString(s)
			call()
		}
		v.SetString(was)
	case reflect.Struct:
		for i := range v.NumField() {
			eachChange(v.Field(i), call)
		}
	case reflect.Slice:
		was := reflect.ValueOf(v.Interface())
		for i := range v.Len() {
			eachChange(v.Index(i), call)
		}
		if was.Len() > 0 {
			v.Set(was.Slice(0, was.Len()-1))
			call()
			v.Set(was.Slice(1, was.Len()))
			call()
		}
		more := reflect.MakeSlice(was.Type(), was.Len()+1, was.Len()+1)
		reflect.Copy(more, was)
		v.Set(more)
		call()
		v.Set(was)
	}
}

func TestP3_2_Same(t *testing.T) {
	m := full()
	if !tree.Same(m, full()) || !tree.Same(api.Module{}, api.Module{}) {
		t.Error("equal modules differ")
	}
	changes := 0
	eachChange(reflect.ValueOf(&m).Elem(), func() {
		changes++
		if tree.Same(m, full()) || tree.Same(full(), m) {
			t.Errorf("the same: %+v; %+v", m, full())
		}
	})
	if changes < 100 || !tree.Same(m, full()) {
		t.Errorf("%d changes", changes)
	}
	for _, x := range [][2]string{
		{"module m", "module n"}, {"module m import a import b", "module m import b import a"}, {"module m type T = int", "module m type U = int"},
		{"module m fn f(): int = 1", "module m fn f(): int = 2"}, {"module m fn f(): int = x + y", "module m fn f(): int = y + x"}, {"module m type T = {a: T, b: T}", "module m type T = {b: T, a: T}"},
		{"module m fn f(): int = f[int]()", "module m fn f(): int = f()"}, {"module m type T = int | (int | int)", "module m type T = int | int | int"},
	} {
		a, b := parsed(t, x[0]), parsed(t, x[1])
		if tree.Same(a, b) || !tree.Same(a, parsed(t, x[0])) {
			t.Errorf("%s; %s", x[0], x[1])
		}
	}
}

// emptied makes each list that is nil an empty one.
func emptied(v reflect.Value) {
	switch v.Kind() {
	case reflect.Struct:
		for i := range v.NumField() {
			emptied(v.Field(i))
		}
	case reflect.Slice:
		if v.IsNil() {
			v.Set(reflect.MakeSlice(v.Type(), 0, 3))
		}
		for i := range v.Len() {
			emptied(v.Index(i))
		}
	}
}

func TestP3_2_NilAndEmpty(t *testing.T) {
	for _, m := range []api.Module{{}, full(), {Fns: make([]api.Fn, 2), Nodes: make([]api.Node, 2)}} {
		empty := tree.Copy(m)
		emptied(reflect.ValueOf(&empty).Elem())
		if !tree.Same(m, empty) || !tree.Same(empty, m) || !tree.Same(tree.Copy(empty), m) {
			t.Errorf("%+v is not the same as with empty lists", m)
		}
	}
}

// A piece of memory, from an address up to another one.
type piece struct{ from, to uintptr }

func (p piece) meets(q piece) bool { return p.from < q.to && q.from < p.to }

// pieces are the memory of all lists in v, their unused capacity included, and that of all strings.
func pieces(v reflect.Value) (lists, strs []piece) {
	switch v.Kind() {
	case reflect.String:
		if s := v.String(); s != "" {
			at := uintptr(unsafe.Pointer(unsafe.StringData(s)))
			strs = append(strs, piece{at, at + uintptr(len(s))})
		}
	case reflect.Struct:
		for i := range v.NumField() {
			l, s := pieces(v.Field(i))
			lists, strs = append(lists, l...), append(strs, s...)
		}
	case reflect.Slice:
		if v.Cap() > 0 {
			lists = append(lists, piece{v.Pointer(), v.Pointer() + uintptr(v.Cap())*v.Type().Elem().Size()})
		}
		for i := range v.Len() {
			l, s := pieces(v.Index(i))
			lists, strs = append(lists, l...), append(strs, s...)
		}
	}
	return lists, strs
}

func meet(a, b []piece) bool {
	return slices.ContainsFunc(a, func(p piece) bool { return slices.ContainsFunc(b, p.meets) })
}

// ownLists tells whether no two lists in x share memory.
func ownLists(x any) bool {
	l, _ := pieces(reflect.ValueOf(x))
	for i, p := range l {
		if slices.ContainsFunc(l[:i], p.meets) {
			return false
		}
	}
	return true
}

// A text in which each kind of node and each list occurs.
const rich = `module m import a import b
type T = null | {h: int, t: T} type U = dyn | bool | 'a | a::T | (int | {})
fn f[A <: T, B <: {x: int}](x: A, y: B): int = let z = {p: x, q: y.x} in if x is null then 0 else z.q + 1
fn g(x: dyn): bool = if x is 'a then true == false else f[T, {x: int}](null, {x: 1}) < b::h((x as int), 'b)`

func TestP3_2_Copy(t *testing.T) {
	for _, m := range []api.Module{{}, full(), parsed(t, rich)} {
		c := tree.Copy(m)
		if !tree.Same(c, m) {
			t.Errorf("copied: %+v; %+v", c, m)
		}
		lists, strs := pieces(reflect.ValueOf(m))
		copiedLists, copiedStrs := pieces(reflect.ValueOf(c))
		if meet(lists, copiedLists) || meet(strs, copiedStrs) || !ownLists(c) {
			t.Errorf("the copy has not memory of its own: %+v", c)
		}
		eachChange(reflect.ValueOf(&c).Elem(), func() {
			if tree.Same(c, m) {
				t.Errorf("a change is seen on both sides: %+v", c)
			}
		})
	}
	// Lists with unused capacity, and empty ones with some.
	m := full()
	m.Imports, m.Types, m.Nodes[0].L = m.Imports[:1], m.Types[:0], m.Nodes[0].L[:1]
	c := tree.Copy(m)
	_, _, _ = append(c.Imports, "z"), append(c.Types, api.Decl{Name: "Z"}), append(c.Nodes[0].L, 99)
	if was := full(); m.Imports[:2][1] != was.Imports[1] || m.Types[:1][0] != was.Types[0] || m.Nodes[0].L[:2][1] != was.Nodes[0].L[1] {
		t.Error("the copy has unused capacity of what was copied")
	}
}

func TestP3_2_Count(t *testing.T) {
	if l := tree.Count(api.Module{}); !slices.Equal(l, make([]int, 25)) {
		t.Errorf("of no nodes: %v", l)
	}
	l := tree.Count(parsed(t, rich))
	want := make([]int, 25)
	for kind, n := range map[int]int{
		api.TDyn: 2, api.TNull: 1, api.TBool: 2, api.TInt: 6, api.TTag: 1, api.TName: 6, api.TRec: 4, api.TUnion: 3,
		api.EInt: 3, api.ETag: 1, api.ETrue: 1, api.EFalse: 1, api.ENull: 1, api.EVar: 6, api.ERec: 2, api.EField: 2,
		api.ECall: 2, api.EIf: 2, api.EIs: 2, api.ELet: 1, api.EOp: 3, api.EAs: 1,
	} {
		want[kind] = n
	}
	if !slices.Equal(l, want) {
		t.Errorf("counted: %v, want %v", l, want)
	}
	// Every kind is counted where it belongs, and what is none is not counted.
	var m api.Module
	for kind := -3; kind < 30; kind++ {
		for range kind + 4 {
			m.Nodes = append(m.Nodes, api.Node{Kind: kind})
		}
	}
	m.Nodes = append(m.Nodes, api.Node{Kind: 1 << 40}, api.Node{Kind: -1 << 40})
	for kind, n := range tree.Count(m) {
		if n != kind+4 {
			t.Errorf("of the kind %d: %d", kind, n)
		}
	}
	if n := len(tree.Count(m)); n != 25 {
		t.Errorf("%d kinds", n)
	}
}

func TestP3_3(t *testing.T) {
	s := strings.Clone(rich)
	m := parsed(t, s)
	at := uintptr(unsafe.Pointer(unsafe.StringData(s)))
	lists, strs := pieces(reflect.ValueOf(m))
	if meet(strs, []piece{{at, at + uintptr(len(s))}}) {
		t.Error("a name is a piece of the text")
	}
	if !ownLists(m) {
		t.Error("two lists of a module share memory")
	}
	again := parsed(t, s)
	if others, _ := pieces(reflect.ValueOf(again)); meet(lists, others) {
		t.Error("two results share memory")
	}
	tree.Same(m, again)
	tree.Copy(m)
	first := tree.Count(m)
	clear(first)
	if slices.Equal(tree.Count(m), first) {
		t.Error("two counts share memory")
	}
	if !reflect.DeepEqual(m, again) {
		t.Error("an argument is changed")
	}
}
