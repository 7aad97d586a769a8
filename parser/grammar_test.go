package parser

import (
	"math/rand"
	"strings"
	"testing"

	"disjoint/api"
	"disjoint/lexer"
)

// grammar is that of the document, with rules for what stands in brackets and braces. An alternative is a list of symbols; a word without a rule is a token.
const grammar = `
statement = create | insert | update | delete | select | BEGIN | COMMIT | ROLLBACK | ROLLBACK TO name | SAVEPOINT name | RELEASE name
create = CREATE TABLE name ( elements )
elements = element | elements , element
element = name type | name type NOT NULL | PRIMARY KEY ( names ) | UNIQUE ( names ) | CHECK ( expr ) | FOREIGN KEY ( names ) REFERENCES name ( names )
type = INTEGER | INTEGER ( bound , bound ) | TEXT | TEXT ( number )
bound = number | - number
names = name | names , name
insert = INSERT INTO name VALUES tuples
tuples = tuple | tuples , tuple
tuple = ( exprs )
exprs = expr | exprs , expr
update = UPDATE name SET sets where
sets = set | sets , set
set = name = expr
where = | WHERE expr
delete = DELETE FROM name where
select = SELECT what FROM sources where grouping ordering limit
what = * | items
items = item | items , item
item = COUNT ( * ) | aggregate ( expr ) | expr
aggregate = COUNT | SUM | MIN | MAX
sources = source | sources , source | sources JOIN source ON expr
source = name | name AS name
grouping = | GROUP BY columns
columns = column | columns , column
column = name | name . name
ordering = | ORDER BY orders
orders = order | orders , order
order = positive | positive ASC | positive DESC
limit = | LIMIT positive
expr = and | expr OR and
and = not | and AND not
not = test | NOT not
test = sum | sum comparison sum | sum LIKE string | sum NOT LIKE string | sum IS NULL | sum IS NOT NULL | sum BETWEEN sum AND sum | sum NOT BETWEEN sum AND sum | sum IN ( sums ) | sum NOT IN ( sums )
comparison = = | <> | < | <= | > | >=
sums = sum | sums , sum
sum = product | sum + product | sum - product
product = unary | product * unary | product / unary | product % unary
unary = primary | - primary
primary = number | string | NULL | column | LENGTH ( expr ) | ( expr )
script = | script statement ;
`

type rule struct {
	name    string
	symbols []string
}

func rules() []rule {
	var l []rule
	for line := range strings.Lines(strings.TrimSpace(grammar)) {
		name, alternatives, _ := strings.Cut(strings.TrimSpace(line), " =")
		for _, a := range strings.Split(alternatives, "|") {
			l = append(l, rule{name, strings.Fields(a)})
		}
	}
	return l
}

// item is a rule of which some symbols have been found from a position on.
type state struct{ rule, done, from int }

func fits(symbol string, t lexer.Token) bool {
	switch symbol {
	case "name":
		return t.Kind == lexer.Word
	case "number":
		return t.Kind == lexer.Number
	case "positive":
		return t.Kind == lexer.Number && t.Text != "0"
	case "string":
		return t.Kind == lexer.String
	}
	return (t.Kind == lexer.Keyword || t.Kind == lexer.Symbol) && t.Text == symbol
}

// earley returns the position of the first token that cannot follow the ones before it, or -1 if the tokens are derived from the start symbol; the last token is End.
func earley(rs []rule, start string, tokens []lexer.Token) int {
	byName := map[string][]int{}
	for i, r := range rs {
		byName[r.name] = append(byName[r.name], i)
	}
	sets := make([]map[state]bool, len(tokens)+1)
	for i := range sets {
		sets[i] = map[state]bool{}
	}
	for _, i := range byName[start] {
		sets[0][state{i, 0, 0}] = true
	}
	for at := range tokens {
		work := make([]state, 0, len(sets[at]))
		for s := range sets[at] {
			work = append(work, s)
		}
		add := func(s state) {
			if !sets[at][s] {
				sets[at][s] = true
				work = append(work, s)
			}
		}
		finished := map[string]bool{} // rules that derive nothing here
		accepted := false
		for len(work) > 0 {
			s := work[0]
			work = work[1:]
			r := rs[s.rule]
			if s.done == len(r.symbols) {
				if s.from == at {
					finished[r.name] = true
				}
				accepted = accepted || s.from == 0 && r.name == start
				for p := range sets[s.from] {
					if q := rs[p.rule]; p.done < len(q.symbols) && q.symbols[p.done] == r.name {
						add(state{p.rule, p.done + 1, p.from})
					}
				}
				continue
			}
			symbol := r.symbols[s.done]
			if l, isRule := byName[symbol]; isRule {
				for _, i := range l {
					add(state{i, 0, at})
				}
				if finished[symbol] {
					add(state{s.rule, s.done + 1, s.from})
				}
			} else if tokens[at].Kind != lexer.End && fits(symbol, tokens[at]) {
				sets[at+1][state{s.rule, s.done + 1, s.from}] = true
			}
		}
		if tokens[at].Kind == lexer.End {
			if accepted {
				return -1
			}
			return at
		}
		if len(sets[at+1]) == 0 {
			return at
		}
	}
	return -1
}

// derive returns the tokens of a random derivation.
func derive(r *rand.Rand, rs []rule, symbol string, depth int) []string {
	var l []rule
	for _, x := range rs {
		if x.name == symbol {
			l = append(l, x)
		}
	}
	if len(l) == 0 {
		switch symbol {
		case "name":
			return []string{[]string{"a", "b", "tab"}[r.Intn(3)]}
		case "number":
			return []string{[]string{"0", "7", "2147483648"}[r.Intn(3)]}
		case "positive":
			return []string{[]string{"1", "25"}[r.Intn(2)]}
		case "string":
			return []string{[]string{"''", "'a%'", "'it''s'"}[r.Intn(3)]}
		}
		return []string{symbol}
	}
	x := l[r.Intn(len(l))]
	if depth <= 0 {
		x = l[0]
		if symbol == "primary" {
			x = l[r.Intn(4)]
		}
	}
	var tokens []string
	for _, s := range x.symbols {
		tokens = append(tokens, derive(r, rs, s, depth-1)...)
	}
	return tokens
}

// The first error of random token lists, most of them nearly correct, is where the grammar has it.
func TestAgainstGrammar(t *testing.T) {
	rs := rules()
	r := rand.New(rand.NewSource(16))
	var vocabulary []string
	for _, x := range rs {
		vocabulary = append(vocabulary, derive(r, rs, x.name, 3)...)
	}
	vocabulary = append(vocabulary, "0", "1", "a", "'x'", ";")
	accepted := 0
	for i := range 6000 {
		start := []string{"statement", "expr", "script"}[i%3]
		words := derive(r, rs, start, 3+r.Intn(9))
		for range r.Intn(3) {
			at := r.Intn(len(words) + 1)
			w := vocabulary[r.Intn(len(vocabulary))]
			switch {
			case r.Intn(3) == 0 || at == len(words):
				words = append(words[:at:at], append([]string{w}, words[at:]...)...)
			case r.Intn(2) == 0:
				words[at] = w
			default:
				words = append(words[:at:at], words[at+1:]...)
			}
		}
		if len(words) > 120 {
			continue
		}
		s := strings.Join(words, " ")
		tokens, _, e := lexer.Tokens(s)
		if e != api.OK {
			t.Fatalf("%q has no tokens", s)
		}
		var offset int
		switch start {
		case "statement":
			_, offset, e = Statement(s)
		case "expr":
			_, offset, e = Expression(s)
		default:
			_, offset, e = Script(s)
		}
		want := earley(rs, start, tokens)
		switch {
		case want < 0 && (e != api.OK && e != api.ErrTooLarge || e == api.OK && offset != 0):
			t.Fatalf("%s %q: %d, %d", start, s, offset, e)
		case want >= 0 && (e != api.ErrSyntax && start != "script" || e == api.ErrSyntax && offset != tokens[want].Pos || e == api.OK):
			t.Fatalf("%s %q: %d, %d, want offset %d", start, s, offset, e, tokens[want].Pos)
		}
		if want < 0 {
			accepted++
		}
	}
	if accepted < 1000 {
		t.Errorf("only %d texts were derived from the grammar", accepted)
	}
}
