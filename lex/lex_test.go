package lex_test

import (
	"math/rand"
	"regexp"
	"slices"
	"strconv"
	"strings"
	"testing"
	"unsafe"

	"armillary/api"
	"armillary/lex"
)

// tokens reads a text that has no error.
func tokens(t *testing.T, s string) []api.Word {
	t.Helper()
	l, at, e := lex.Words(s)
	if at != 0 || e != api.OK {
		t.Fatalf("%q: error %d at %d", s, e, at)
	}
	return l
}

// fails tells that a text has an error there.
func fails(t *testing.T, s string, at int, e api.Errno) {
	t.Helper()
	l, gotAt, gotE := lex.Words(s)
	if len(l) != 0 || gotAt != at || gotE != e {
		t.Errorf("%.40q: %d tokens, error %d at %d; want error %d at %d", s, len(l), gotE, gotAt, e, at)
	}
}

func word(kind int, text string, at int) api.Word { return api.Word{Kind: kind, Text: text, At: at} }
func sign(text string, at int) api.Word           { return word(api.WordSign, text, at) }
func number(n, at int) api.Word {
	return api.Word{Kind: api.WordNum, Text: strconv.Itoa(n), Num: n, At: at}
}
func end(at int) api.Word { return api.Word{Kind: api.WordEnd, At: at} }

func TestP2_1_Words(t *testing.T) {
	for _, x := range []struct {
		s    string
		want []api.Word
	}{
		{"", []api.Word{end(0)}},
		{" \n \n\n", []api.Word{end(5)}},
		{"# no token 'A @ 01\xFF\x00\t", []api.Word{end(21)}},
		{"#\n##\n", []api.Word{end(5)}},
		{"a#b\nc", []api.Word{word(api.WordName, "a", 0), word(api.WordName, "c", 4), end(5)}},
		{"let x1 = 'a\n# no", []api.Word{word(api.WordKey, "let", 0), word(api.WordName, "x1", 4), sign("=", 7), word(api.WordTag, "a", 9), end(16)}},
		{"<:<==: , a::B", []api.Word{
			sign("<:", 0), sign("<", 2), sign("==", 3), sign(":", 5), sign(",", 7),
			word(api.WordName, "a", 9), sign("::", 10), word(api.WordType, "B", 12), end(13)}},
		{"|{}()[],:::.====+<<::", []api.Word{
			sign("|", 0), sign("{", 1), sign("}", 2), sign("(", 3), sign(")", 4), sign("[", 5), sign("]", 6), sign(",", 7), sign("::", 8), sign(":", 10),
			sign(".", 11), sign("==", 12), sign("==", 14), sign("+", 16), sign("<", 17), sign("<:", 18), sign(":", 20), end(21)}},
		{"0 7 10 2147483647", []api.Word{number(0, 0), number(7, 2), number(10, 4), number(2147483647, 7), end(17)}},
		{"a'b'c1_'let", []api.Word{word(api.WordName, "a", 0), word(api.WordTag, "b", 1), word(api.WordTag, "c1_", 3), word(api.WordTag, "let", 7), end(11)}},
		{"1'a.2", []api.Word{number(1, 0), word(api.WordTag, "a", 1), sign(".", 3), number(2, 4), end(5)}},
		{"lets let_ let1 le t", []api.Word{
			word(api.WordName, "lets", 0), word(api.WordName, "let_", 5), word(api.WordName, "let1", 10), word(api.WordName, "le", 15), word(api.WordName, "t", 18), end(19)}},
		{"Let LET T0aZ", []api.Word{word(api.WordType, "Let", 0), word(api.WordType, "LET", 4), word(api.WordType, "T0aZ", 8), end(12)}},
	} {
		if l := tokens(t, x.s); !slices.Equal(l, x.want) {
			t.Errorf("%q: %v, want %v", x.s, l, x.want)
		}
	}
}

func TestP2_1_Keys(t *testing.T) {
	for _, s := range keywords {
		if l := tokens(t, s); !slices.Equal(l, []api.Word{word(api.WordKey, s, 0), end(len(s))}) {
			t.Errorf("%s: %v", s, l)
		}
		if l := tokens(t, "'"+s); !slices.Equal(l, []api.Word{word(api.WordTag, s, 0), end(len(s) + 1)}) {
			t.Errorf("'%s: %v", s, l)
		}
		fails(t, s+"A", 0, api.ErrWord)
	}
}

func TestP2_1_Errors(t *testing.T) {
	for _, x := range []struct {
		s  string
		at int
	}{
		{"01", 0}, {"00", 0}, {"1a", 0}, {"1A", 0}, {"1_", 0}, {"0x1", 0},
		{"2147483648", 0}, {"4294967296", 0}, {"18446744073709551616", 0}, {strings.Repeat("9", 60000), 0},
		{"aB", 0}, {"A_", 0}, {"_", 0}, {"_a", 0},
		{"'", 0}, {"'A", 0}, {"'1", 0}, {"'_", 0}, {"'aB", 0}, {"' a", 0}, {"''a", 0}, {"a '", 2},
		{"@", 0}, {"a\tb", 1}, {"a\r\n", 1}, {"a-b", 1}, {"a > b", 2}, {"\"a\"", 0}, {"a;b", 1}, {"a/b", 1}, {"a*b", 1}, {"a$", 1}, {"a\x00", 1},
		{"aé", 1}, {"É", 0}, {"'é", 0}, {"a\u00A0b", 1}, {"\xFF", 0},
		{"a 1b 01", 2}, {"x = 01 @", 4}, {"# no\n let @", 10}, {"a::_", 3},
	} {
		fails(t, x.s, x.at, api.ErrWord)
	}
}

// Each byte alone is a token, or blank, or an error.
func TestP2_1_Bytes(t *testing.T) {
	alone := map[int]string{
		api.WordName: "abcdefghijklmnopqrstuvwxyz", api.WordType: "ABCDEFGHIJKLMNOPQRSTUVWXYZ",
		api.WordNum: "0123456789", api.WordSign: "|{}()[],:.=+<", api.WordEnd: " \n#",
	}
	for b := range 256 {
		s := string([]byte{byte(b)})
		found := false
		for kind, all := range alone {
			if strings.Contains(all, s) {
				found = true
				if l := tokens(t, s); l[0].Kind != kind {
					t.Errorf("%q: %v", s, l)
				}
			}
		}
		if !found {
			fails(t, s, 0, api.ErrWord)
		}
	}
}

func TestP2_1_Longest(t *testing.T) {
	for _, x := range []struct {
		kind        int
		mark, first string
	}{{api.WordName, "", "a"}, {api.WordType, "", "A"}, {api.WordTag, "'", "a"}} {
		s := x.first + strings.Repeat("z", api.MaxWord-1)
		if l := tokens(t, x.mark+s); len(l) != 2 || l[0] != word(x.kind, s, 0) {
			t.Errorf("%s: %v", s, l)
		}
		fails(t, "= "+x.mark+s+"z", 2, api.ErrWord)
		fails(t, x.mark+s+strings.Repeat("z", 1000), 0, api.ErrWord)
	}
}

func TestP2_1_Limit(t *testing.T) {
	blanks := strings.Repeat(" ", api.MaxText)
	if l := tokens(t, blanks); !slices.Equal(l, []api.Word{end(api.MaxText)}) {
		t.Errorf("the most blanks: %v", l)
	}
	if l := tokens(t, strings.Repeat("(", api.MaxText)); len(l) != api.MaxText+1 || l[api.MaxText-1] != sign("(", api.MaxText-1) {
		t.Errorf("the most signs: %d tokens", len(l))
	}
	if l := tokens(t, "a#"+blanks[2:]); len(l) != 2 || l[1] != end(api.MaxText) {
		t.Errorf("the longest comment: %v", l)
	}
	fails(t, blanks[1:]+"@", api.MaxText-1, api.ErrWord)
	fails(t, blanks+" ", 0, api.ErrLimit)
	fails(t, "@"+blanks, 0, api.ErrLimit)
	fails(t, blanks+blanks, 0, api.ErrLimit)
}

var keywords = strings.Fields("module import type fn let in if then else is as true false null dyn bool int rec")

// The definitions as patterns. Of the alternatives of item the first that fits is taken, so long signs come first.
var (
	gaps  = regexp.MustCompile(`^(?:[ \n]|#[^\n]*)*`)
	item  = regexp.MustCompile(`^(?:'?[A-Za-z0-9_]+|::|==|<:|[|{}()\[\],:.=+<])`)
	forms = []struct {
		kind    int
		pattern *regexp.Regexp
	}{
		{api.WordKey, regexp.MustCompile(`^(?:` + strings.Join(keywords, "|") + `)$`)},
		{api.WordName, regexp.MustCompile(`^[a-z][a-z0-9_]{0,15}$`)},
		{api.WordType, regexp.MustCompile(`^[A-Z][A-Za-z0-9]{0,15}$`)},
		{api.WordNum, regexp.MustCompile(`^(?:0|[1-9][0-9]{0,9})$`)},
		{api.WordTag, regexp.MustCompile(`^'[a-z][a-z0-9_]{0,15}$`)},
		{api.WordSign, regexp.MustCompile(`^[^A-Za-z0-9_']+$`)},
	}
)

// plainWord is the token that an item is, if it is one.
func plainWord(s string, at int) (w api.Word, ok bool) {
	for _, f := range forms {
		if !f.pattern.MatchString(s) {
			continue
		}
		w = word(f.kind, s, at)
		switch f.kind {
		case api.WordTag:
			w.Text = s[1:]
		case api.WordNum:
			w.Num, _ = strconv.Atoi(s)
			return w, w.Num <= api.MaxInt
		}
		return w, true
	}
	return api.Word{}, false
}

// plainWords is what Words returns, by the patterns.
func plainWords(s string) (l []api.Word, at int, e api.Errno) {
	for {
		at += len(gaps.FindString(s[at:]))
		if at == len(s) {
			return append(l, end(at)), 0, api.OK
		}
		found := item.FindString(s[at:])
		w, ok := plainWord(found, at)
		if !ok {
			return nil, at, api.ErrWord
		}
		l = append(l, w)
		at += len(found)
	}
}

// goodBits and badBits are pieces of texts; good ones give tokens whatever is beside them but a letter, a digit or an underscore.
var (
	goodBits = append(strings.Fields("a x1 b_2 abcdefghijklmnop T Tree A9z 0 7 42 2147483647 'a 'let 'x_1 | { } ( ) [ ] , : :: . = == + < <:"), keywords...)
	badBits  = []string{"01", "1a", "aB", "A_", "'", "'A", "'1", "_", "@", "\t", "\r", "é", "\xFF", "\x00", "-", "2147483648", "abcdefghijklmnopq", "'abcdefghijklmnopq", "Abcdefghijklmnopq"}
	gapBits  = []string{" ", "\n", "  ", "#\n", "# a comment 'A\n", "#é\xFF@ # let\n\n "}
)

func pick(r *rand.Rand, l []string) string { return l[r.Intn(len(l))] }

// randomText is a text, most often one without an error.
func randomText(r *rand.Rand) string {
	var b strings.Builder
	bad := r.Intn(3) == 0
	for range r.Intn(12) {
		b.WriteString(pick(r, goodBits))
		if r.Intn(4) > 0 {
			b.WriteString(pick(r, gapBits))
		}
		if bad && r.Intn(6) == 0 {
			b.WriteString(pick(r, badBits))
		}
	}
	if r.Intn(6) == 0 {
		b.WriteString("# up to the end")
	}
	return b.String()
}

// someTexts calls with many texts that have no error.
func someTexts(t *testing.T, seed int64, call func(r *rand.Rand, s string, l []api.Word)) {
	t.Helper()
	r := rand.New(rand.NewSource(seed))
	tried := 0
	for tried < 3000 {
		s := randomText(r)
		l, _, e := lex.Words(s)
		if e == api.OK {
			call(r, s, l)
			tried++
		}
	}
}

func TestP2_1_Random(t *testing.T) {
	r := rand.New(rand.NewSource(1))
	same := func(s string) {
		l, at, e := lex.Words(s)
		wantL, wantAt, wantE := plainWords(s)
		if !slices.Equal(l, wantL) || at != wantAt || e != wantE {
			t.Fatalf("%q: %v, error %d at %d; want %v, error %d at %d", s, l, e, at, wantL, wantE, wantAt)
		}
	}
	for range 10000 {
		same(randomText(r))
	}
	const bytes = "aZ09_'# \n:=<+.@"
	for range 50000 {
		b := make([]byte, r.Intn(9))
		for i := range b {
			b[i] = bytes[r.Intn(len(bytes))]
		}
		same(string(b))
	}
}

func TestP2_2(t *testing.T) {
	for _, x := range []struct {
		l    []api.Word
		want string
	}{
		{nil, ""}, {[]api.Word{}, ""}, {[]api.Word{end(5)}, ""},
		{tokens(t, "let x1 = 'a\n# no"), "let x1 = 'a"},
		{tokens(t, "<:<==: , a::B"), "<: < == : , a :: B"},
		{tokens(t, "f(2147483647)[T]"), "f ( 2147483647 ) [ T ]"},
		// Tokens in any order, with offsets that are not theirs, and ones that Words returns nowhere.
		{[]api.Word{end(0), word(api.WordName, "b", 9), end(3), word(api.WordName, "a", 1), end(7)}, "b a"},
		{[]api.Word{word(api.WordName, "", 0), word(api.WordTag, "", 0), word(api.WordKey, "", 0), word(api.WordSign, "=", 0), {}}, "' ="},
		{[]api.Word{{Kind: api.WordEnd, Text: "end"}, {Kind: api.WordNum, Text: "12", Num: 13}, {Kind: -4, Text: "of no kind"}}, "12 of no kind"},
	} {
		if s := lex.Join(x.l); s != x.want {
			t.Errorf("%v: %q, want %q", x.l, s, x.want)
		}
	}
}

func TestP2_3(t *testing.T) {
	const none = 0
	check := func(s string, kind int) {
		t.Helper()
		if lex.IsKey(s) != (kind == api.WordKey) || lex.IsName(s) != (kind == api.WordName) || lex.IsType(s) != (kind == api.WordType) {
			t.Errorf("%q: key %t, name %t, type %t", s, lex.IsKey(s), lex.IsName(s), lex.IsType(s))
		}
	}
	for _, s := range keywords {
		check(s, api.WordKey)
		check(s+"_", api.WordName)
		check("x"+s, api.WordName)
		check(strings.ToUpper(s), api.WordType)
		check(s+" ", none)
		check("'"+s, none)
	}
	for _, s := range strings.Fields("a z x1 a_b a__ lets end abcdefghijklmnop") {
		check(s, api.WordName)
	}
	for _, s := range strings.Fields("A Z T1 Tree TREE Abcdefghijklmnop") {
		check(s, api.WordType)
	}
	for _, s := range []string{
		"", " ", "_", "_a", "1", "1a", "0", "aB", "A_", "'a", "a b", " a", "a ", "A ", "a\n", "a#", "é", "aé", "a\x00", "A\x00", "=",
		"abcdefghijklmnopq", "Abcdefghijklmnopq", strings.Repeat("a", 1<<20),
	} {
		check(s, none)
	}
	r := rand.New(rand.NewSource(3))
	bits := slices.Concat(goodBits, badBits)
	for range 20000 {
		s := pick(r, bits) + pick(r, []string{"", "", "a", "A", "_", "0", " ", "\n"})
		w, ok := plainWord(s, 0)
		if !ok {
			w.Kind = none
		}
		check(s, w.Kind)
	}
}

// inside tells whether the bytes of one string lie within those of another one.
func inside(part, whole string) bool {
	if part == "" || whole == "" {
		return false
	}
	from := uintptr(unsafe.Pointer(unsafe.StringData(whole)))
	at := uintptr(unsafe.Pointer(unsafe.StringData(part)))
	return from <= at && at < from+uintptr(len(whole))
}

func TestP2_4(t *testing.T) {
	s := strings.Clone("let x1 = 'a + 12 <: T # no")
	l := tokens(t, s)
	for _, w := range l {
		if inside(w.Text, s) {
			t.Errorf("%v: its text is a piece of the argument", w)
		}
	}
	was := slices.Clone(l)
	clear(l)
	if !slices.Equal(tokens(t, s), was) {
		t.Error("two results share memory")
	}
	all := append(slices.Clone(was), word(api.WordName, "behind", 0))
	joined := lex.Join(all[:len(was)])
	if !slices.Equal(all[:len(was)], was) || all[len(was)].Text != "behind" {
		t.Error("Join changes its argument")
	}
	clear(all)
	if joined != "let x1 = 'a + 12 <: T" {
		t.Errorf("joined: %q", joined)
	}
	one := []api.Word{word(api.WordName, strings.Clone("name"), 0)}
	if inside(lex.Join(one), one[0].Text) {
		t.Error("what is joined is a piece of the argument")
	}
}

// noOffsets are tokens without their offsets.
func noOffsets(l []api.Word) []api.Word {
	l = slices.Clone(l)
	for i := range l {
		l[i].At = 0
	}
	return l
}

func TestP2_5(t *testing.T) {
	someTexts(t, 5, func(_ *rand.Rand, s string, l []api.Word) {
		joined := lex.Join(l)
		if again := tokens(t, joined); !slices.Equal(noOffsets(again), noOffsets(l)) {
			t.Fatalf("%q: joined as %q, split into %v", s, joined, again)
		}
		if lex.Join(tokens(t, joined)) != joined {
			t.Fatalf("%q: joined as %q, which is joined otherwise", s, joined)
		}
	})
}

func TestP2_6(t *testing.T) {
	between := regexp.MustCompile(gaps.String() + `$`)
	someTexts(t, 6, func(_ *rand.Rand, s string, l []api.Word) {
		at := 0
		for i, w := range l {
			text := lex.Join([]api.Word{w})
			if w.At < at || !strings.HasPrefix(s[w.At:], text) || !between.MatchString(s[at:w.At]) {
				t.Fatalf("%q: %v is not at its offset", s, w)
			}
			if last := i == len(l)-1; last != (w.Kind == api.WordEnd) {
				t.Fatalf("%q: %v is not the last one", s, w)
			}
			at = w.At + len(text)
		}
		if at != len(s) {
			t.Fatalf("%q: the end is at %d", s, at)
		}
	})
}

func TestP2_7(t *testing.T) {
	someTexts(t, 7, func(r *rand.Rand, s string, l []api.Word) {
		var b strings.Builder
		at := 0
		for _, w := range l {
			b.WriteString(s[at:w.At])
			for range r.Intn(3) {
				b.WriteString(pick(r, gapBits))
			}
			at = w.At
		}
		b.WriteString(s[at:])
		wide := b.String()
		if again := tokens(t, wide); !slices.Equal(noOffsets(again), noOffsets(l)) {
			t.Fatalf("%q: %v; with gaps %q: %v", s, l, wide, again)
		}
	})
}
