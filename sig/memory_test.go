package sig_test

import (
	"bytes"
	"fmt"
	"slices"
	"strings"
	"testing"

	"armillary/api"
	"armillary/link"
	"armillary/sig"
)

// roomy returns a copy of a list with two marked elements in the room behind it.
func roomy[T any](l []T, mark T) []T {
	c := append(append(make([]T, 0, len(l)+2), l...), mark, mark)
	return c[:len(l)]
}

// room returns a signature with marked room behind each list.
func room(s api.Sig) api.Sig {
	s.Names, s.Types = roomy(s.Names, "room"), roomy(s.Types, -7)
	s.Fns = roomy(s.Fns, fn("room", nil, nil, -7))
	for i := range s.Fns {
		f := &s.Fns[i]
		f.Bounds, f.Params = roomy(f.Bounds, -7), roomy(f.Params, -7)
	}
	s.Graph = roomy(s.Graph, tag("room"))
	for i := range s.Graph {
		n := &s.Graph[i]
		n.Keys, n.L = roomy(n.Keys, "room"), roomy(n.L, -7)
	}
	return s
}

// whole writes a signature with the room behind each list.
func whole(s api.Sig) string {
	var b strings.Builder
	for _, f := range s.Fns[:cap(s.Fns)] {
		fmt.Fprintln(&b, f.Name, f.Bounds[:cap(f.Bounds)], f.Params[:cap(f.Params)], f.Ret)
	}
	for _, n := range s.Graph[:cap(s.Graph)] {
		fmt.Fprintln(&b, n.Kind, n.Num, n.Name, n.Keys[:cap(n.Keys)], n.L[:cap(n.L)])
	}
	return fmt.Sprint(s.Module, s.Names[:cap(s.Names)], s.Types[:cap(s.Types)], b.String())
}

// lists are all lists of numbers, and all lists of names, of a signature.
func lists(s api.Sig) (nums [][]int, names [][]string) {
	nums, names = append(nums, s.Types), append(names, s.Names)
	for _, f := range s.Fns {
		nums = append(nums, f.Bounds, f.Params)
	}
	for _, n := range s.Graph {
		nums, names = append(nums, n.L), append(names, n.Keys)
	}
	return nums, names
}

func fill[T any](l []T, x T) {
	for i := range l {
		l[i] = x
	}
}

// grow writes into the room behind each list.
func grow(s api.Sig) {
	nums, names := lists(s)
	for _, l := range nums {
		fill(l[len(l):cap(l)], -9)
	}
	for _, l := range names {
		fill(l[len(l):cap(l)], "grown")
	}
	fill(s.Fns[len(s.Fns):cap(s.Fns)], fn("grown", nil, nil, -9))
	fill(s.Graph[len(s.Graph):cap(s.Graph)], tag("grown"))
}

// spoil writes other things into all lists of a signature.
func spoil(s api.Sig) {
	nums, names := lists(s)
	for _, l := range nums {
		fill(l, -5)
	}
	for _, l := range names {
		fill(l, "spoiled")
	}
	fill(s.Fns, fn("spoiled", nil, nil, -5))
	fill(s.Graph, tag("spoiled"))
}

// isApart tests that no two lists of a signature share memory: each can grow and change alone.
func isApart(t *testing.T, s api.Sig) {
	t.Helper()
	want := showAll(s)
	grow(s)
	if got := showAll(s); got != want {
		t.Errorf("%s, then %s", want, got)
	}
	nums, names := lists(s)
	for i, l := range nums {
		before := fmt.Sprint(nums[:i], nums[i+1:])
		for k := range l {
			l[k]--
		}
		if fmt.Sprint(nums[:i], nums[i+1:]) != before {
			t.Errorf("list %d is shared", i)
		}
		for k := range l {
			l[k]++
		}
	}
	for i, l := range names {
		before := fmt.Sprint(names[:i], names[i+1:])
		kept := slices.Clone(l)
		fill(l, "other")
		if fmt.Sprint(names[:i], names[i+1:]) != before {
			t.Errorf("names %d are shared", i)
		}
		copy(l, kept)
	}
	if got := showAll(s); got != want {
		t.Errorf("%s, then %s", want, got)
	}
}

func TestP15_4_Arguments(t *testing.T) {
	l := []api.Sig{{}, nothing(), chapter(), rich()}
	for _, c := range slices.Concat(wrong(), negative(), right()) {
		l = append(l, changed(c))
	}
	for i, s := range l {
		s = room(s)
		other := room(rich())
		before, otherBefore := whole(s), whole(other)
		sig.Check(s)
		sig.Bytes(s)
		sig.Copy(s)
		sig.Same(s, other)
		sig.Same(other, s)
		sig.Fn(s, "g")
		sig.Type(s, "T2")
		if whole(s) != before || whole(other) != otherBefore {
			t.Errorf("signature %d: %.500s, then %.500s", i, before, whole(s))
		}
	}
}

func TestP15_4_ArgumentsOfParse(t *testing.T) {
	good := encoded(rich())
	for _, s := range []string{"", good, good + "\x00", good[:len(good)-1], "\x01m\x00\x00\x41", "\x80\x00", encoded(changed(wrong()[3]))} {
		all := append([]byte(s), bytes.Repeat([]byte{0xEE}, 40)...)
		before := slices.Clone(all)
		sig.Parse(all[:len(s)])
		if !bytes.Equal(all, before) {
			t.Errorf("% X, then % X", before, all)
		}
	}
}

// programText writes all modules of a program.
func programText(p *link.Program) string {
	var l []api.Module
	for _, name := range p.Names() {
		m, _ := p.Module(name)
		l = append(l, m)
	}
	return fmt.Sprint(l)
}

func TestP15_4_ResultsOfOf(t *testing.T) {
	p := program(t, richText, "module m import rich type T = rich::List", "module wrong type T = T")
	before := programText(p)
	for module, want := range map[string]string{"rich": showAll(rich()), "m": "m [T] [0]; ; 1|2; null; {hd: 3, tl: 0}; int"} {
		s, _, _ := sig.Of(p, module)
		other, _, _ := sig.Of(p, module)
		sig.Of(p, "wrong")
		isApart(t, s)
		grow(s)
		spoil(s)
		if got := showAll(other); got != want {
			t.Errorf("%s, not %s", got, want)
		}
		again, node, e := sig.Of(p, module)
		if got := result(again, e); got != want || node != 0 {
			t.Errorf("%s at %d, not %s", got, node, want)
		}
	}
	if after := programText(p); after != before {
		t.Errorf("%s, then %s", before, after)
	}
}

func TestP15_4_ResultsOfCopy(t *testing.T) {
	s := room(rich())
	before, want := whole(s), showAll(s)
	u := sig.Copy(s)
	isApart(t, u)
	grow(u)
	spoil(u)
	if got := whole(s); got != before {
		t.Errorf("%s, then %s", before, got)
	}
	u = sig.Copy(s)
	grow(s)
	spoil(s)
	if got := showAll(u); got != want {
		t.Errorf("%s, then %s", want, got)
	}
}

func TestP15_4_ResultsOfBytes(t *testing.T) {
	s := rich()
	b, _ := sig.Bytes(s)
	want := string(b)
	other, _ := sig.Bytes(s)
	fill(other[:cap(other)], 0xEE)
	spoil(s)
	if string(b) != want {
		t.Errorf("% X, then % X", want, b)
	}
	s = room(rich())
	before := whole(s)
	b, _ = sig.Bytes(s)
	fill(b[:cap(b)], 0xEE)
	if got := whole(s); got != before {
		t.Errorf("%s, then %s", before, got)
	}
	if got := bytesOf(s); got != want {
		t.Errorf("% X, then % X", want, got)
	}
}

func TestP15_4_ResultsOfParse(t *testing.T) {
	b := []byte(encoded(rich()))
	want := showAll(rich())
	s, _ := sig.Parse(b)
	other, _ := sig.Parse(b)
	fill(b[:cap(b)], 'x')
	isApart(t, s)
	spoil(other)
	if got := showAll(s); got != want {
		t.Errorf("%s, then %s", want, got)
	}
	b = []byte(encoded(rich()))
	before := string(b[:cap(b)])
	s, _ = sig.Parse(b)
	grow(s)
	spoil(s)
	if string(b[:cap(b)]) != before {
		t.Error("the bytes change with the signature")
	}
	if got := parsed(string(b)); got != want {
		t.Errorf("%s, then %s", want, got)
	}
}
