package syntax_test

import (
	"slices"
	"strings"
	"testing"

	"scarfjoint/api"
	"scarfjoint/lex"
	"scarfjoint/syntax"
)

// F1 and F2 once more, a form each line; what stands in < > is a form, all else a token.
const grammar = `
<unit> =
<unit> = <unit> <decl>
<decl> = struct NAME { <fields> }
<fields> = <field>
<fields> = <fields> <field>
<field> = <type> NAME ;
<decl> = extern <type> NAME <params> ;
<decl> = extern <type> NAME ;
<decl> = <static> <type> NAME = <sign> <number> ;
<decl> = <static> <type> NAME <params> <block>
<static> =
<static> = static
<sign> =
<sign> = -
<number> = NUMBER
<number> = LONG
<params> = ( )
<params> = ( ... )
<params> = ( <named> )
<params> = ( <named> , ... )
<named> = <type> NAME
<named> = <named> , <type> NAME
<type> = int
<type> = long
<type> = NAME
<type> = fn ( ) <type>
<type> = fn ( ... ) <type>
<type> = fn ( <types> ) <type>
<type> = fn ( <types> , ... ) <type>
<types> = <type>
<types> = <types> , <type>
<block> = { <stats> }
<stats> =
<stats> = <stats> <stat>
<stat> = <type> NAME = <expr> ;
<stat> = <place> = <expr> ;
<stat> = <call> ;
<stat> = if ( <expr> ) <block>
<stat> = if ( <expr> ) <block> else <block>
<stat> = while ( <expr> ) <block>
<stat> = return <expr> ;
<stat> = put ( <expr> ) ;
<place> = NAME
<place> = <place> . NAME
<call> = <called> <args>
<called> = NAME
<called> = <called> . NAME
<called> = <called> <args>
<args> = ( )
<args> = ( <exprs> )
<exprs> = <expr>
<exprs> = <exprs> , <expr>
<expr> = <sum>
<expr> = <sum> == <sum>
<expr> = <sum> < <sum>
<sum> = <product>
<sum> = <sum> + <product>
<sum> = <sum> - <product>
<sum> = <sum> | <product>
<sum> = <sum> ^ <product>
<product> = <unary>
<product> = <product> * <unary>
<product> = <product> / <unary>
<product> = <product> % <unary>
<product> = <product> & <unary>
<unary> = - <unary>
<unary> = ! <unary>
<unary> = <post>
<post> = <first>
<post> = <post> . NAME
<post> = <post> <args>
<first> = <number>
<first> = NAME
<first> = NAME { }
<first> = NAME { <exprs> }
<first> = & NAME
<first> = int ( <expr> )
<first> = long ( <expr> )
<first> = count
<first> = extra ( <expr> )
<first> = ( <expr> )`

type rule struct {
	left  string
	right []string
}

// begun is a rule of which some parts are there, from a place on.
type begun struct{ rule, parts, from int }

// beginnings holds a row of tokens against all units at once: behind each token it has every rule that may still go on.
type beginnings struct {
	rules []rule
	by    map[string][]int
	none  map[string]bool // forms that may have no tokens
	sets  [][]begun
}

func newBeginnings() *beginnings {
	b := &beginnings{by: map[string][]int{}, none: map[string]bool{}}
	for _, line := range strings.Split(strings.TrimSpace(grammar), "\n") {
		words := strings.Fields(line)
		r := rule{words[0], words[2:]}
		b.by[r.left] = append(b.by[r.left], len(b.rules))
		b.rules = append(b.rules, r)
		if len(r.right) == 0 {
			b.none[r.left] = true
		}
	}
	var first []begun
	for _, r := range b.by["<unit>"] {
		first = append(first, begun{rule: r})
	}
	b.sets = [][]begun{b.closed(first, 0)}
	return b
}

// next is what a rule asks for next, "" if nothing.
func (b *beginnings) next(i begun) string {
	if r := b.rules[i.rule].right; i.parts < len(r) {
		return r[i.parts]
	}
	return ""
}

// closed adds all that follows from rules that are begun, behind so many tokens.
func (b *beginnings) closed(l []begun, at int) []begun {
	seen := map[begun]bool{}
	var out []begun
	for len(l) > 0 {
		i := l[len(l)-1]
		l = l[:len(l)-1]
		if seen[i] {
			continue
		}
		seen[i] = true
		out = append(out, i)
		next := b.next(i)
		for _, r := range b.by[next] {
			l = append(l, begun{rule: r, from: at})
		}
		if b.none[next] {
			l = append(l, begun{i.rule, i.parts + 1, i.from})
		}
		if next == "" && i.from < at {
			for _, j := range b.sets[i.from] {
				if b.next(j) == b.rules[i.rule].left {
					l = append(l, begun{j.rule, j.parts + 1, j.from})
				}
			}
		}
	}
	return out
}

// take goes on by a token, if a unit does.
func (b *beginnings) take(token string) bool {
	at := len(b.sets)
	var l []begun
	for _, i := range b.sets[at-1] {
		if b.next(i) == token {
			l = append(l, begun{i.rule, i.parts + 1, i.from})
		}
	}
	if len(l) == 0 {
		return false
	}
	b.sets = append(b.sets, nil)
	b.sets[at] = b.closed(l, at)
	return true
}

// whole says whether the tokens that were taken are a unit.
func (b *beginnings) whole() bool {
	return slices.ContainsFunc(b.sets[len(b.sets)-1], func(i begun) bool {
		return i.from == 0 && b.next(i) == "" && b.rules[i.rule].left == "<unit>"
	})
}

// back goes back to where so many tokens were taken.
func (b *beginnings) back(tokens int) {
	b.sets = b.sets[:tokens+1]
}

var barred = strings.Fields("break count else extern extra fn if int long put return static struct while")

// classOf is a token as the grammar has it.
func classOf(token api.Token) string {
	switch {
	case token.Kind == api.KNumber:
		return "NUMBER"
	case token.Kind == api.KLong:
		return "LONG"
	case token.Kind == api.KWord && !slices.Contains(barred, token.Text):
		return "NAME"
	}
	return token.Text
}

// fault tells what the grammar says of a text that Scan takes.
func (b *beginnings) fault(text string) api.Fault {
	b.back(0)
	tokens, f := lex.Scan(text)
	if f.Code != api.OK {
		return f
	}
	for _, token := range tokens {
		if !b.take(classOf(token)) {
			return api.Fault{Code: api.ErrForm, At: token.At}
		}
	}
	if !b.whole() {
		return api.Fault{Code: api.ErrForm, At: len(text)}
	}
	return api.Fault{}
}

// anyTokens has a token of each sort: all words, all signs, names, numbers.
var anyTokens = append(strings.Fields("x y 0 1 2L { } ( ) ; , . = < + - * / % & | ^ ! ... =="), barred...)

// units are texts that have each row of F1 and of F2 between them.
var units = []string{
	"struct s { int a ; long b ; }",
	"extern s f ( int a , fn ( int , ... ) long b , ... ) ; extern int g ( ) ;",
	"extern fn ( ) s x ; extern long h ( ... ) ;",
	"static int x = - 1 ; long y = 2L ;",
	"static int f ( ... ) { } fn ( ... ) int g ( s a ) { }",
	"int f ( ) { int x = 1 ; s y = x ; fn ( ) int z = & f ; }",
	"int f ( ) { x = 1 ; x . a . b = 2 ; }",
	"int f ( ) { x ( ) ; x . a ( 1 , 2 ) ( ) . b ( 3 ) ; }",
	"int f ( ) { if ( x ) { } while ( y ) { } if ( z ) { return 1 ; } else { put ( 2 ) ; } }",
	"int f ( ) { return a + b * c == d - e / f ; }",
	"int f ( ) { return ( a < b ) | ( c ^ d ) % - ! e & & f ; }",
	"int f ( ) { return x { } . a ( y { 1 , 2L } ) ; }",
	"int f ( ) { return int ( count ) + long ( extra ( 1 ) ) . a ( ) ; }",
}

// F3: with each token of a unit taken away, or another one in its place or ahead of it, the fault is where the grammar has it.
func TestWrongTokens(t *testing.T) {
	b := newBeginnings()
	for _, text := range units {
		tokens := strings.Fields(text)
		check := func(l ...[]string) {
			changed := strings.Join(slices.Concat(l...), " ")
			_, f := syntax.Parse(changed)
			if want := b.fault(changed); f != want {
				t.Errorf("%s: %v, not %v", changed, f, want)
			}
		}
		check(tokens)
		for at := range tokens {
			check(tokens[:at], tokens[at+1:])
			for _, other := range anyTokens {
				check(tokens[:at], []string{other}, tokens[at+1:])
				check(tokens[:at], []string{other}, tokens[at:])
			}
		}
	}
}

// F3: behind beginnings of units every row of tokens, up to some length, goes on as the grammar has it.
func TestEveryRow(t *testing.T) {
	b := newBeginnings()
	var follow func(ahead string, more int)
	follow = func(ahead string, more int) {
		tokens := len(b.sets) - 1
		for _, other := range anyTokens {
			text := ahead + other
			one, _ := lex.Scan(other)
			goesOn := b.take(classOf(one[0]))
			want := api.Fault{Code: api.ErrForm, At: len(ahead)}
			if goesOn && b.whole() {
				want = api.Fault{}
			} else if goesOn {
				want.At = len(text)
			}
			if _, f := syntax.Parse(text); f != want {
				t.Fatalf("%s: %v, not %v", text, f, want)
			}
			if goesOn && more > 0 {
				follow(text+" ", more-1)
			}
			b.back(tokens)
		}
	}
	for _, ahead := range []string{"", "extern int f ", "int f ", "int f ( ", "int f ( ) { ", "int f ( ) { x . y ", "int f ( ) { x ( ) ", "int f ( ) { if ( x ) ", "int f ( ) { if ( x ) { } ", "int f ( ) { x = ", "int f ( ) { x = y ", "int f ( ) { x = ( y == z ", "int f ( ) { put ( x { ", "int f ( ) { int x "} {
		if f := b.fault(ahead); f.At != len(ahead) {
			t.Fatal(ahead, f)
		}
		follow(ahead, 2)
	}
}
