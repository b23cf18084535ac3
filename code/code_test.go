package code_test

import (
	"bytes"
	"encoding/hex"
	"fmt"
	"hash/crc32"
	"math"
	"slices"
	"strings"
	"testing"

	"armillary/api"
	"armillary/cert"
	"armillary/code"
)

// Nodes of a graph, by their kinds.
func plain(kind int) api.GNode          { return api.GNode{Kind: kind} }
func tag(name string) api.GNode         { return api.GNode{Kind: api.TTag, Name: name} }
func union(l ...int) api.GNode          { return api.GNode{Kind: api.TUnion, L: l} }
func variable(num, bound int) api.GNode { return api.GNode{Kind: api.TVar, Num: num, L: []int{bound}} }

func record(keys string, l ...int) api.GNode {
	return api.GNode{Kind: api.TRec, Keys: strings.Fields(keys), L: l}
}

// inRow are so many plain nodes.
func inRow(n int) []api.GNode { return slices.Repeat([]api.GNode{plain(api.TInt)}, n) }

func arg(node int, types ...int) api.Arg { return api.Arg{Node: node, Types: types} }

// of is a fact.
func of(a, b int, why ...int) api.Fact { return api.Fact{A: a, B: b, Why: why} }

func use(node, part, fact int) api.Use { return api.Use{Node: node, Part: part, Fact: fact} }

func sum(module string, n int) api.Sum { return api.Sum{Module: module, Sum: n} }

// Encodings are written here as texts, in which a byte may be any: num, text, nums and texts as chapter 1 says.

func num(n int) string {
	if n < 128 {
		return string([]byte{byte(n)})
	}
	return string([]byte{byte(n%128) | 128}) + num(n/128)
}

func text(s string) string { return num(len(s)) + s }

func nums(l ...int) string { return each(l, num) }

func texts(l ...string) string { return each(l, text) }

// each is the number of elements, and each of them.
func each[T any](l []T, write func(T) string) string {
	var b strings.Builder
	b.WriteString(num(len(l)))
	for _, x := range l {
		b.WriteString(write(x))
	}
	return b.String()
}

// next are numbers, plus one.
func next(l []int) (m []int) {
	for _, n := range l {
		m = append(m, n+1)
	}
	return m
}

// contents are those of a certificate, valid or not.
func contents(c api.Cert) [7]string {
	return [7]string{
		text(c.Module),
		each(c.Graph, func(n api.GNode) string {
			s := num(n.Kind)
			switch n.Kind {
			case 5:
				s += text(n.Name)
			case 7:
				s += texts(n.Keys...) + nums(n.L...)
			case 8:
				s += nums(n.L...)
			case 9:
				s += num(n.Num) + num(n.L[0])
			}
			return s
		}),
		nums(next(c.Types)...),
		each(c.Args, func(a api.Arg) string { return num(a.Node) + nums(a.Types...) }),
		each(c.Facts, func(f api.Fact) string { return num(f.A) + num(f.B) + nums(next(f.Why)...) }),
		each(c.Uses, func(u api.Use) string { return num(u.Node) + num(u.Part) + num(u.Fact) }),
		each(c.Sums, func(s api.Sum) string { return text(s.Module) + num(s.Sum) }),
	}
}

// section is one with this content.
func section(number int, content string) string {
	return string([]byte{byte(number)}) + num(len(content)) + content
}

// body are sections with these contents, in order.
func body(l ...string) string {
	var b strings.Builder
	for i, s := range l {
		b.WriteString(section(i+1, s))
	}
	return b.String()
}

// sealed returns bytes with the header before and the checksum behind them.
func sealed(body string) []byte {
	b := []byte("ARM1" + body)
	sum := crc32.ChecksumIEEE(b)
	return append(b, byte(sum), byte(sum>>8), byte(sum>>16), byte(sum>>24))
}

// encoded is the encoding of a certificate, valid or not.
func encoded(c api.Cert) []byte {
	l := contents(c)
	return sealed(body(l[:]...))
}

// bytesOf reads hexadecimal digits; what is in brackets is a remark.
func bytesOf(t *testing.T, s string) []byte {
	t.Helper()
	var digits strings.Builder
	for i, part := range strings.Split(s, "(") {
		if i > 0 {
			_, part, _ = strings.Cut(part, ")")
		}
		digits.WriteString(strings.Join(strings.Fields(part), ""))
	}
	b, err := hex.DecodeString(digits.String())
	if err != nil {
		t.Fatal(err)
	}
	return b
}

// head is the beginning of bytes, as a text.
func head(b []byte) string {
	if len(b) > 200 {
		return fmt.Sprintf("% X .. (%d bytes)", b[:200], len(b))
	}
	return fmt.Sprintf("% X", b)
}

// Results as texts; beside an error there must be nothing else.

func toldBytes(b []byte, e api.Errno) string {
	if e == api.OK {
		return string(b)
	}
	return fmt.Sprintf("error %d%s", e, b)
}

func told(c api.Cert, e api.Errno) string {
	s := fmt.Sprintf("%q %v types %v args %v facts %v uses %v sums %v", c.Module, c.Graph, c.Types, c.Args, c.Facts, c.Uses, c.Sums)
	if e != api.OK {
		return fmt.Sprintf("error %d", e) + strings.TrimPrefix(s, `"" [] types [] args [] facts [] uses [] sums []`)
	}
	return s
}

func toldSizes(l []int, e api.Errno) string {
	if e != api.OK && len(l) == 0 {
		return fmt.Sprintf("error %d", e)
	}
	return strings.TrimSuffix(fmt.Sprintf("%v error %d", l, e), " error 0")
}

func failed(e api.Errno) string { return fmt.Sprintf("error %d", e) }

// rich has several of everything; its facts are well-formed, but not all of them hold.
func rich() api.Cert {
	return api.Cert{
		Module: "rich_1",
		Graph: []api.GNode{
			plain(api.TDyn), plain(api.TNull), plain(api.TBool), plain(api.TInt), tag("far"), record("hd tl", 3, 7), record(""), union(1, 5, 3), variable(15, 0), record("a_", 8),
		},
		Types: []int{-1, 7, 0, 9, -1, 3, 3},
		Args:  []api.Arg{arg(1, 8), arg(3, 7, 5, 4), arg(6, 9)},
		Facts: []api.Fact{of(7, 0, 1, 2, 3), of(1, 7, 0), of(5, 0, 0), of(3, 7, 2), of(8, 3, -1, 3), of(9, 9, 0, 6), of(8, 8, 0, 3), of(5, 5, 0, 3, 0)},
		Uses:  []api.Use{use(0, 0, 7), use(0, 255, 0), use(2, 7, 4), use(6, 128, 4)},
		Sums:  []api.Sum{sum("a", 0), sum("a_b", math.MaxUint32), sum("b", 70000)},
	}
}

// bytesOfRich is the encoding of that, but for its end.
const bytesOfRich = `41 52 4D 31
01 07 (Module) 06 72 69 63 68 5F 31
02 27 (Graph) 0A (plain) 01 02 03 04 (a tag) 05 03 66 61 72 (a record) 07 02 02 68 64 02 74 6C 02 03 07 (of nothing) 07 00 00
	(a union) 08 03 01 05 03 (a variable) 09 0F 00 (a record) 07 01 02 61 5F 01 08
03 08 (Types) 07 00 08 01 0A 00 04 04
04 0C (Args) 03 01 01 08 03 03 07 05 04 06 01 09
05 28 (Facts) 08 07 00 03 02 03 04 01 07 01 01 05 00 01 01 03 07 01 03 08 03 02 00 04 09 09 02 01 07 08 08 02 01 04 05 05 03 01 04 01
06 0F (Uses) 04 00 00 07 00 FF 01 00 02 07 04 06 80 01 04
07 12 (Sums) 03 01 61 00 03 61 5F 62 FF FF FF FF 0F 01 62 F0 A2 04
`

const (
	// Those of the chapter, without their checksums.
	bytesOfNothing = "41 52 4D 31 01 02 01 6D 02 01 00 03 01 00 04 01 00 05 01 00 06 01 00 07 01 00"
	bytesOfInt     = "41 52 4D 31 01 02 01 6D 02 02 01 04 03 03 02 01 00 04 01 00 05 01 00 06 01 00 07 01 00"
	sumOfNothing   = "0F 8B 95 0C"
	sumOfInt       = "92 0B 44 9F"
)

// ended are bytes with their checksum.
func ended(t *testing.T, s string) []byte {
	t.Helper()
	return sealed(string(bytesOf(t, s)[4:]))
}

func nothing() api.Cert { return api.Cert{Module: "m"} }

func oneInt() api.Cert {
	return api.Cert{Module: "m", Graph: []api.GNode{plain(api.TInt)}, Types: []int{0, -1}}
}

func TestP14_1_Examples(t *testing.T) {
	for _, x := range []struct {
		c    api.Cert
		want []byte
	}{{nothing(), ended(t, bytesOfNothing)}, {oneInt(), ended(t, bytesOfInt)}} {
		if got := toldBytes(code.Bytes(x.c)); got != string(x.want) {
			t.Errorf("% X, not % X", got, x.want)
		}
	}
}

// The checksums in full, so that nothing of the tests is taken for granted.
func TestP14_1_Checksum(t *testing.T) {
	for _, x := range []struct {
		c    api.Cert
		want string
	}{
		{nothing(), bytesOfNothing + sumOfNothing},
		{oneInt(), bytesOfInt + sumOfInt},
	} {
		if got, want := toldBytes(code.Bytes(x.c)), string(bytesOf(t, x.want)); got != want {
			t.Errorf("% X, not % X", got, want)
		}
	}
}

func TestP14_1_Rich(t *testing.T) {
	want := ended(t, bytesOfRich)
	if got := toldBytes(code.Bytes(rich())); got != string(want) {
		t.Errorf("% X, not % X", got, want)
	}
	if got := told(code.Parse(want)); got != told(rich(), api.OK) {
		t.Errorf("%s, not %s", got, told(rich(), api.OK))
	}
}

// The numbers, lists and texts that have more than a byte.
func TestP14_1_Great(t *testing.T) {
	keys := "a b c d e f g h i j k l m n o p234567890123456"
	c := api.Cert{Module: "m234567890123456", Graph: append(inRow(300), tag("t_34567890123456"), record(keys, upTo(200)[184:]...), union(upTo(299)...), variable(0, 302))}
	c.Types = append(slices.Repeat([]int{126, 127, 128, 303, -1}, 60), 300)
	for i := range c.Types {
		c.Args = append(c.Args, arg(i, 5, 127, 128, 303))
		c.Uses = append(c.Uses, use(i, i%256, 130))
	}
	for i := range 200 {
		c.Facts = append(c.Facts, of(i, 302, i))
	}
	c.Facts = append(c.Facts, of(302, 128, slices.Repeat([]int{126, 127, 199}, 100)[:299]...), of(303, 303, -1, 127))
	if e := cert.Check(c); e != api.OK {
		t.Fatalf("error %d", e)
	}
	if got, want := toldBytes(code.Bytes(c)), encoded(c); got != string(want) {
		t.Errorf("%s, not %s", head([]byte(got)), head(want))
	}
	if got, want := told(code.Parse(encoded(c))), told(c, api.OK); got != want {
		t.Errorf("%s, not %s", got, want)
	}
}

func upTo(n int) (l []int) {
	for i := range n {
		l = append(l, i)
	}
	return l
}

// Nil and empty lists are the same, and fields that a kind has not are those of no valid certificate.
func TestP14_1_NilAndEmpty(t *testing.T) {
	empty := api.Cert{Module: "m", Graph: []api.GNode{}, Types: []int{}, Args: []api.Arg{}, Facts: []api.Fact{}, Uses: []api.Use{}, Sums: []api.Sum{}}
	if got := toldBytes(code.Bytes(empty)); got != string(ended(t, bytesOfNothing)) {
		t.Errorf("% X", got)
	}
	c := oneInt()
	c.Graph[0].Keys, c.Graph[0].L, c.Args = []string{}, []int{}, []api.Arg{}
	if got := toldBytes(code.Bytes(c)); got != string(ended(t, bytesOfInt)) {
		t.Errorf("% X", got)
	}
	for _, n := range []api.GNode{{Kind: api.TInt, Num: 1}, {Kind: api.TInt, Name: "a"}, {Kind: api.TInt, L: []int{0}}, {Kind: api.TTag, Name: "a", Num: 1}, {Kind: api.TVar, L: []int{0, 0}}, {Kind: api.TVar}} {
		c.Graph[0] = n
		if got := toldBytes(code.Bytes(c)); got != failed(api.ErrArg) {
			t.Errorf("%v: % X", n, got)
		}
	}
}

// wrong are changes of the rich certificate that make it none; all of them can be encoded.
func wrong() []func(c *api.Cert) {
	return []func(c *api.Cert){
		func(c *api.Cert) { c.Module = "" },
		func(c *api.Cert) { c.Module = "Rich" },
		func(c *api.Cert) { c.Module = strings.Repeat("m", 65536) },
		func(c *api.Cert) { c.Graph[4].Name = "A" },
		func(c *api.Cert) { c.Graph[4].Name = strings.Repeat("a", 17) },
		func(c *api.Cert) { c.Graph[5].Keys[1] = "hd" },
		func(c *api.Cert) { c.Graph[5].Keys = c.Graph[5].Keys[:1] },
		func(c *api.Cert) { c.Graph[5].L = append(c.Graph[5].L, 3) },
		func(c *api.Cert) { c.Graph[5].L[0] = 10 },
		func(c *api.Cert) { c.Graph[6].L = []int{0} },
		func(c *api.Cert) { c.Graph[7].L = nil },
		func(c *api.Cert) { c.Graph[7].L[0] = 3 },
		func(c *api.Cert) { c.Graph[8].Num = 16 },
		func(c *api.Cert) { c.Graph[8].L[0] = 10 },
		func(c *api.Cert) { c.Graph = nil },
		func(c *api.Cert) { c.Types[1] = 10 },
		func(c *api.Cert) { c.Types[1] = api.MaxNumber - 1 },
		func(c *api.Cert) { c.Types = c.Types[:6] },
		func(c *api.Cert) { c.Args[1].Node = 1 },
		func(c *api.Cert) { c.Args[1].Types = nil },
		func(c *api.Cert) { c.Args[1].Types = slices.Repeat([]int{1}, 17) },
		func(c *api.Cert) { c.Args[2].Types[0] = 10 },
		func(c *api.Cert) { c.Facts[0].A = 10 },
		func(c *api.Cert) { c.Facts[0].B = 10 },
		func(c *api.Cert) { c.Facts[0].Why[2] = 8 },
		func(c *api.Cert) { c.Facts[0].Why[2] = -1 },
		func(c *api.Cert) { c.Facts[4].Why[1] = -1 },
		func(c *api.Cert) { c.Facts[1].Why = nil },
		func(c *api.Cert) { c.Uses[2].Node = 7 },
		func(c *api.Cert) { c.Uses[1].Part = 256 },
		func(c *api.Cert) { c.Uses[1].Part = 0 },
		func(c *api.Cert) { c.Uses[3].Fact = 8 },
		func(c *api.Cert) { c.Sums[0].Module = "b" },
		func(c *api.Cert) { c.Sums[1].Module = "" },
		func(c *api.Cert) { c.Sums[1].Sum = 1 << 32 },
		func(c *api.Cert) { c.Sums = make([]api.Sum, 17) },
	}
}

// tooLong are changes that make too many of something, without ever more than 8000 elements.
func tooLong() []func(c *api.Cert) {
	return []func(c *api.Cert){
		func(c *api.Cert) { c.Graph = append(c.Graph, inRow(2001-len(c.Graph))...) },
		func(c *api.Cert) { c.Graph = append(c.Graph, inRow(8000-len(c.Graph))...) },
		func(c *api.Cert) { c.Types = append(c.Types, make([]int, 4001-len(c.Types))...) },
		func(c *api.Cert) { c.Types = append(c.Types, make([]int, 8000-len(c.Types))...) },
	}
}

func TestP14_1_Invalid(t *testing.T) {
	more := []func(c *api.Cert){
		// what cannot even be encoded
		func(c *api.Cert) { c.Module = strings.Repeat("m", 65537) },
		func(c *api.Cert) { c.Graph[0].Kind = -1 },
		func(c *api.Cert) { c.Graph[0].Kind = api.TName },
		func(c *api.Cert) { c.Graph[0].Kind = math.MaxInt },
		func(c *api.Cert) { c.Graph[5].L[0] = -1 },
		func(c *api.Cert) { c.Graph[8].L = nil },
		func(c *api.Cert) { c.Graph[8].Num = -1 },
		func(c *api.Cert) { c.Types[1] = -2 },
		func(c *api.Cert) { c.Types[1] = math.MinInt },
		func(c *api.Cert) { c.Types[1] = math.MaxInt },
		func(c *api.Cert) { c.Args[0].Node = -1 },
		func(c *api.Cert) { c.Args[2].Types[0] = -1 },
		func(c *api.Cert) { c.Args[2].Types = make([]int, 8001) },
		func(c *api.Cert) { c.Facts[0].A = -1 },
		func(c *api.Cert) { c.Facts[0].Why[0] = -2 },
		func(c *api.Cert) { c.Facts[0].Why = make([]int, 8001) },
		func(c *api.Cert) { c.Uses[0].Node = -1 },
		func(c *api.Cert) { c.Sums[0].Sum = -1 },
		func(c *api.Cert) { c.Sums[0].Sum = math.MaxInt },
	}
	for i, change := range append(wrong(), more...) {
		c := rich()
		change(&c)
		if got := toldBytes(code.Bytes(c)); got != failed(api.ErrArg) {
			t.Errorf("change %d: %.100q", i, got)
		}
	}
	long := []func(c *api.Cert){
		func(c *api.Cert) { c.Facts = make([]api.Fact, 8001) },
		func(c *api.Cert) { c.Uses = make([]api.Use, 8001) },
	}
	for i, change := range append(tooLong(), long...) {
		c := rich()
		change(&c)
		if got := toldBytes(code.Bytes(c)); got != failed(api.ErrLimit) {
			t.Errorf("too long, %d: %.100q", i, got)
		}
	}
	if got := toldBytes(code.Bytes(api.Cert{})); got != failed(api.ErrArg) {
		t.Errorf("no certificate: %.100q", got)
	}
}

func TestP14_2_Examples(t *testing.T) {
	b := ended(t, bytesOfNothing)
	if got := told(code.Parse(b)); got != told(nothing(), api.OK) {
		t.Error(got)
	}
	if got := told(code.Parse(ended(t, bytesOfInt))); got != told(oneInt(), api.OK) {
		t.Error(got)
	}
	for _, x := range []struct {
		b    []byte
		want api.Errno
	}{{nil, api.ErrTrunc}, {make([]byte, 8), api.ErrHead}, {b[:len(b)-1], api.ErrSum}} {
		if got := told(code.Parse(x.b)); got != failed(x.want) {
			t.Errorf("%s: %s", head(x.b), got)
		}
	}
	if !bytes.Equal(b, encoded(nothing())) {
		t.Errorf("% X is not % X", b, encoded(nothing()))
	}
}
