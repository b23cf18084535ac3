package tree_test

import (
	"math/rand"
	"slices"
	"strconv"
	"strings"
	"testing"

	"armillary/api"
	"armillary/lex"
	"armillary/tree"
)

// The grammar as the chapter has it, but for the operand of is, of which the chapter says in words what it must be.
const grammarText = `
module = "module" NAME { "import" NAME } { "type" TYPE "=" type } { fn } end
fn     = "fn" NAME [ "[" TYPE "<:" type { "," TYPE "<:" type } "]" ] "(" [ NAME ":" type { "," NAME ":" type } ] ")" ":" type "=" expr
type   = part { "|" part }
part   = "dyn" | "null" | "bool" | "int" | TAG | TYPE | NAME "::" TYPE | "{" [ NAME ":" type { "," NAME ":" type } ] "}" | "(" type ")"
expr   = "let" NAME "=" expr "in" expr | "if" expr "then" expr "else" expr | sum | tested "is" shape
tested = var | var "." NAME | "(" tested ")"
var    = NAME | "(" var ")"
shape  = "null" | "bool" | "int" | "rec" | TAG
sum    = prim { ( "+" | "<" | "==" ) prim }
prim   = atom { "." NAME }
atom   = NUM | TAG | "true" | "false" | "null" | "{" [ NAME ":" expr { "," NAME ":" expr } ] "}" | "(" expr [ "as" type ] ")" | NAME | [ NAME "::" ] NAME call
call   = [ "[" type { "," type } "]" ] "(" [ expr { "," expr } ] ")"
`

// A phrase is a part of a grammar: a token (its Text, or the word for its kind), a rule, or one of the signs | [ { with phrases; a space with phrases is one after the other.
type phrase struct {
	what  string
	parts []*phrase
}

const (
	sequence = " "
	choice   = "|"
	option   = "["
	repeated = "{"
)

// readPhrase reads phrases up to a closing sign or the end; it returns the words behind.
func readPhrase(l []string) (*phrase, []string) {
	all := &phrase{what: choice, parts: []*phrase{{what: sequence}}}
	for len(l) > 0 {
		w := l[0]
		l = l[1:]
		var p *phrase
		switch w {
		case "]", "}", ")":
			return all, l
		case choice:
			all.parts = append(all.parts, &phrase{what: sequence})
			continue
		case option, repeated, "(":
			p, l = readPhrase(l)
			if w != "(" {
				p = &phrase{what: w, parts: []*phrase{p}}
			}
		default:
			p = &phrase{what: w}
		}
		last := all.parts[len(all.parts)-1]
		last.parts = append(last.parts, p)
	}
	return all, nil
}

// readGrammar returns the phrase of each rule.
func readGrammar() map[string]*phrase {
	rules := map[string]*phrase{}
	for line := range strings.Lines(strings.TrimSpace(grammarText)) {
		l := strings.Fields(line)
		rules[l[0]], _ = readPhrase(l[2:])
	}
	return rules
}

// A pile is what is expected still, the next phrase first.
type pile struct {
	top  *phrase
	rest *pile
}

// expected adds to l the piles that begin with a token, of all that a pile can become.
func expected(rules map[string]*phrase, p *pile, l []*pile) []*pile {
	top, rest := p.top, p.rest
	rule := rules[top.what]
	switch {
	case top.what == sequence:
		for _, part := range slices.Backward(top.parts) {
			rest = &pile{part, rest}
		}
		return expected(rules, rest, l)
	case top.what == choice:
		for _, part := range top.parts {
			l = expected(rules, &pile{part, rest}, l)
		}
		return l
	case top.what == option:
		return expected(rules, rest, expected(rules, &pile{top.parts[0], rest}, l))
	case top.what == repeated:
		return expected(rules, rest, expected(rules, &pile{top.parts[0], p}, l))
	case rule != nil:
		return expected(rules, &pile{rule, rest}, l)
	}
	return append(l, p)
}

// shows is how the grammar writes a token.
func shows(w api.Word) string {
	switch w.Kind {
	case api.WordName:
		return "NAME"
	case api.WordType:
		return "TYPE"
	case api.WordNum:
		return "NUM"
	case api.WordTag:
		return "TAG"
	case api.WordEnd:
		return "end"
	}
	return `"` + w.Text + `"`
}

// firstWrong is where the first token is that no rule allows; -1 if there is none.
func firstWrong(rules map[string]*phrase, words []api.Word) int {
	now := []*pile{{rules["module"], nil}}
	for _, w := range words {
		var next []*pile
		for _, p := range now {
			if p == nil {
				continue
			}
			for _, q := range expected(rules, p, nil) {
				if q.top.what == shows(w) {
					next = append(next, q.rest)
				}
			}
		}
		if len(next) == 0 {
			return w.At
		}
		now = next
	}
	return -1
}

// renamed are tokens with names of which none occurs twice: so no error is one of names.
func renamed(words []string) []string {
	words = slices.Clone(words)
	for i, w := range words {
		if lex.IsName(w) {
			words[i] = "n" + strconv.Itoa(i)
		} else if lex.IsType(w) {
			words[i] = "N" + strconv.Itoa(i)
		}
	}
	return words
}

var allTokens = strings.Fields("module import type fn let in if then else is as true false null dyn bool int rec | { } ( ) [ ] , : :: . = == + < <: name Type 7 'tag")

// changed are tokens of which a few are left out, doubled, exchanged, or others.
func changed(r *rand.Rand, words []string) []string {
	words = slices.Clone(words)
	for range r.Intn(3) {
		i := r.Intn(len(words))
		switch r.Intn(5) {
		case 0:
			words = slices.Delete(words, i, i+1)
		case 1:
			words = slices.Insert(words, i, words[i])
		case 2:
			j := r.Intn(len(words))
			words[i], words[j] = words[j], words[i]
		case 3:
			words[i] = allTokens[r.Intn(len(allTokens))]
		case 4:
			words = slices.Insert(words, i, allTokens[r.Intn(len(allTokens))])
		}
		if len(words) == 0 {
			return words
		}
	}
	return words
}

func TestP3_1_Grammar(t *testing.T) {
	rules := readGrammar()
	good, bad := 0, 0
	someModules(10, 1200, func(k *maker) {
		if len(k.words) > 400 {
			return
		}
		for range 3 {
			s := strings.Join(renamed(changed(k.r, k.words)), " ")
			words, _, e := lex.Words(s)
			if e != api.OK {
				t.Fatalf("%s: no tokens", s)
			}
			if at := firstWrong(rules, words); at < 0 {
				good++
				parsed(t, s)
			} else {
				bad++
				fails(t, s[:at]+mark+s[at:], api.ErrSyntax)
			}
		}
	})
	if good < 500 || bad < 500 {
		t.Errorf("%d modules, %d other texts", good, bad)
	}
}

// From each place where a token is wrong on, every token is tried: whether it may follow is what the grammar says.
func TestP3_1_Follow(t *testing.T) {
	rules := readGrammar()
	someModules(11, 30, func(k *maker) {
		words := renamed(k.words)
		if len(words) > 150 {
			return
		}
		for i := range words {
			ahead := strings.Join(words[:i], " ") + " "
			for _, w := range allTokens {
				s := ahead + w
				l, _, _ := lex.Words(s)
				want := firstWrong(rules, l)
				if _, at, e := tree.Parse(s); want >= 0 && (at != want || e != api.ErrSyntax) || want < 0 && e != api.OK {
					t.Fatalf("%s: error %d at %d; want one at %d", s, e, at, want)
				}
			}
		}
	})
}
