package sig_test

import (
	"fmt"
	"math"
	"slices"
	"testing"

	"armillary/api"
	"armillary/canon"
	"armillary/sig"
)

// graph makes a valid graph, in which many types are equal; that of a module need not be so.
func (r maker) graph(size int) []api.GNode {
	g := make([]api.GNode, size)
	var l []int // all but the unions
	for n := range g {
		if n > 1 && r.Intn(4) == 0 {
			g[n] = union()
		} else {
			g[n] = r.node(size)
			l = append(l, n)
		}
	}
	for n := range g {
		if g[n].Kind == api.TUnion {
			r.Shuffle(len(l), func(i, k int) { l[i], l[k] = l[k], l[i] })
			g[n].L = slices.Clone(l[:2+r.Intn(min(5, len(l)-1))])
		}
	}
	return g
}

func (r maker) node(size int) api.GNode {
	at := func() int { return r.Intn(size) }
	switch r.Intn(9) {
	case 0, 1:
		return plain(1 + r.Intn(4))
	case 2, 3:
		return tag(r.one("a b1 module t_34567890123456"))
	case 4, 5:
		return variable(r.Intn(16), at())
	case 6:
		return record("a b_ c", at(), at(), at())
	}
	return record(r.one("key k"), at())
}

// sig makes a valid signature; it need not be that of a module.
func (r maker) sig() api.Sig {
	size := 2 + r.Intn(12)
	if r.Intn(5) == 0 {
		size = 2 + r.Intn(200)
	}
	g := r.graph(size)
	node := func() int { return r.Intn(size) }
	list := func(most int) (l []int) {
		for range r.Intn(most + 1) {
			l = append(l, node())
		}
		return l
	}
	s := api.Sig{Module: r.one("a m m23456789012345_")}
	s.Names = r.some(r.Intn(5), "A T T2 List T234567890123456 ABC Zz")
	for range s.Names {
		s.Types = append(s.Types, node())
	}
	for _, name := range r.some(r.Intn(5), "a f f_2 map g234567890123456 is_ zz") {
		s.Fns = append(s.Fns, fn(name, list(3), list([]int{3, 16}[r.Intn(2)]), node()))
	}
	roots := rootsOf(s.Types, s.Fns)
	h, at, _ := canon.Of(g, roots)
	to := map[int]int{}
	for i, n := range roots {
		to[n] = at[i]
	}
	for _, n := range places(&s) {
		*n = to[*n]
	}
	s.Graph = h
	return s
}

// places are where a signature says where its types lie.
func places(s *api.Sig) (l []*int) {
	add := func(nums []int) {
		for i := range nums {
			l = append(l, &nums[i])
		}
	}
	add(s.Types)
	for i := range s.Fns {
		f := &s.Fns[i]
		add(f.Bounds)
		add(f.Params)
		l = append(l, &f.Ret)
	}
	return l
}

// numbers are all numbers of a signature.
func numbers(s *api.Sig) []*int {
	l := places(s)
	for i := range s.Graph {
		n := &s.Graph[i]
		l = append(l, &n.Kind, &n.Num)
		for k := range n.L {
			l = append(l, &n.L[k])
		}
	}
	return l
}

// other makes a signature in which something is another thing; it need not be valid.
func (r maker) other(s api.Sig) api.Sig {
	s = sig.Copy(s)
	fns, nodes := len(s.Fns), len(s.Graph)
	switch k := r.Intn(10); {
	case k < 4 && fns+nodes > 0:
		l := numbers(&s)
		n := l[r.Intn(len(l))]
		*n = []int{0, 1, *n + 1, *n - 1, r.Intn(nodes + 1), 15, 16, nodes, 8001, 1 << 32, api.MaxNumber, math.MinInt}[r.Intn(12)]
	case k == 4 && len(s.Names) > 1:
		i, j := r.Intn(len(s.Names)), r.Intn(len(s.Names))
		s.Names[i], s.Types[i], s.Names[j], s.Types[j] = s.Names[j], s.Types[j], s.Names[i], s.Types[i]
	case k == 5 && len(s.Names) > 0:
		s.Names[r.Intn(len(s.Names))] = r.one("A T t List U2 T2345678901234567 _")
	case k == 6 && fns > 0:
		s.Fns[r.Intn(fns)].Name = r.one("a f F map in g2345678901234567 _")
	case k == 7 && fns > 1:
		i, j := r.Intn(fns), r.Intn(fns)
		s.Fns[i], s.Fns[j] = s.Fns[j], s.Fns[i]
	case k == 8 && nodes > 0:
		i, j := r.Intn(nodes), r.Intn(nodes)
		s.Graph[i], s.Graph[j] = s.Graph[j], s.Graph[i]
	case k == 9 && nodes > 0:
		i := r.Intn(nodes)
		s.Graph[i] = r.node(nodes)
	default:
		s.Module = r.one("a in M m_1 m2345678901234567")
	}
	return s
}

// signatures calls a test with many signatures.
func signatures(t *testing.T, times int, test func(r maker, s api.Sig)) {
	r := newMaker(15)
	for i := range times {
		s := r.sig()
		if !isSig(s) {
			t.Fatalf("%d: %s is none", i, showAll(s))
		}
		if test(r, s); t.Failed() {
			t.Fatalf("%d: %s", i, showAll(s))
		}
	}
}

func TestP15_2_AsDefined(t *testing.T) {
	seen := map[api.Errno]int{}
	signatures(t, 3000, func(r maker, s api.Sig) {
		for range 4 {
			e := sig.Check(s)
			want, wantBytes := api.OK, encoded
			if !isSig(s) {
				want, wantBytes = api.ErrArg, func(api.Sig) string { return failed(api.ErrArg) }
			}
			if e != want {
				t.Errorf("error %d, not %d: %s", e, want, showAll(s))
			}
			if got, want := bytesOf(s), wantBytes(s); got != want {
				t.Errorf("% X, not % X: %s", got, want, showAll(s))
			}
			seen[e]++
			u := r.other(s)
			if got, want := sig.Same(s, u), showAll(s) == showAll(u); got != want {
				t.Errorf("the same: %t: %s and %s", got, showAll(s), showAll(u))
			}
			s = u
		}
	})
	if seen[api.OK] < 3300 || seen[api.ErrArg] < 3300 {
		t.Error(seen)
	}
}

func TestP15_5_ThereAndBack(t *testing.T) {
	great := 0
	signatures(t, 2000, func(r maker, s api.Sig) {
		thereAndBack(t, s)
		if len(s.Graph) > 30 {
			great++
		}
	})
	if great < 100 {
		t.Errorf("%d great ones", great)
	}
}

// piece is a text that is put somewhere.
func (r maker) piece() string {
	if r.Intn(3) == 0 {
		return []string{num(8001), num(65537), "\x41", num(2001)}[r.Intn(4)]
	}
	return []string{"\x00", "\x01", "\x02", "\x80", "\x80\x00", "\xFF", num(8000), num(65536), num(api.MaxNumber), rest7 + "\x10", num(r.Intn(300)), "\x01a", string([]byte{byte(r.Intn(256))})}[r.Intn(13)]
}

// mixed changes something of a text: a piece is put into it, or instead of as many bytes; some bytes are left out, or are twice.
func (r maker) mixed(s string) string {
	i := r.Intn(len(s) + 1)
	k := min(len(s), i+r.Intn(4))
	p := r.piece()
	switch r.Intn(6) {
	case 0:
		return s[:i] + p + s[i:]
	case 1, 2:
		return s[:i] + p + s[min(len(s), i+len(p)):]
	case 3:
		return s[:i] + s[k:]
	case 4:
		return s[:k] + s[i:]
	}
	return s[:i]
}

// judge tests what Parse returns for bytes; what is parsed has no other encoding.
func judge(t *testing.T, b string) api.Errno {
	t.Helper()
	s, e := sig.Parse([]byte(b))
	if got, want := result(s, e), result(readParse(b)); got != want {
		t.Errorf("%s: %s, not %s", head(b), got, want)
	}
	if e != api.OK {
		return e
	}
	if got := bytesOf(s); got != b {
		t.Errorf("% X, parsed from % X", got, b)
	}
	return e
}

func TestP15_3_AsDefined(t *testing.T) {
	seen := map[api.Errno]int{}
	again := 0
	signatures(t, 4000, func(r maker, s api.Sig) {
		for range 3 {
			b := encoded(s)
			mixed := r.mixed(b)
			e := judge(t, mixed)
			seen[e]++
			if e == api.OK && b != mixed {
				again++
			}
			seen[judge(t, r.mixed(mixed))]++
			if u := r.other(s); all(numbers(&u), func(n *int) bool { return *n >= 0 && *n <= api.MaxNumber }) {
				seen[judge(t, encoded(u))]++
			}
		}
	})
	for _, e := range []api.Errno{api.OK, api.ErrTrunc, api.ErrForm, api.ErrLimit} {
		if seen[e] < 1000 {
			t.Errorf("error %d: %d times", e, seen[e])
		}
	}
	if again < 100 {
		t.Error(fmt.Sprint("only ", again, " mixed ones could be parsed"))
	}
}

// Bytes that were never an encoding.
func TestP15_3_AnyBytes(t *testing.T) {
	r := newMaker(2)
	for range 30000 {
		b := make([]byte, r.Intn(60))
		for i := range b {
			b[i] = byte(r.Intn(256) >> r.Intn(8))
		}
		judge(t, string(b))
		judge(t, "\x01m\x00\x00"+string(b))
		judge(t, "\x01m\x00\x00\x00"+string(b))
	}
}
