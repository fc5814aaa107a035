package tests

import (
	"math/rand"
	"slices"
	"strings"
	"testing"

	"loop.example/s02245/impl"
)

// grammarText is the document's grammar once more, without braces and brackets.
// In a name with @ it stands for L (in a loop) or N (in none). Names with ~ stand
// for o (open: ends with a suffixed) or c (closed); behind an open statement
// without `;` none that begins with `(` may stand. n and p ahead of a name tell
// whether it begins with a name or with a parenthesis.
const grammarText = `
block@ : rest@
rest@  : bare@ | pstatc rest@ | pstato bare@ | pstatc ; rest@ | pstato ; rest@
bare@  : | last@ | last@ ; | nstatc@ rest@ | nstato@ bare@ | nstatc@ ; rest@ | nstato@ ; rest@
lastN  : return | return exprs
lastL  : return | return exprs | break
nstatc@ : local names | local names = exprsc | local function NAME params blockN end
nstatc@ : do block@ end | while expr do blockL end | repeat blockL until exprc
nstatc@ : if expr then block@ more@ end | ntargets = exprsc
nstatc@ : for NAME = expr , expr do blockL end | for NAME = expr , expr , expr do blockL end
nstato@ : local names = exprso | repeat blockL until expro | ntargets = exprso | nsuffixed arguments
pstatc : ptargets = exprsc
pstato : ptargets = exprso | psuffixed arguments
more@  : | else block@ | elseif expr then block@ more@
ntargets : ntarget | ntarget , targets
ptargets : ptarget | ptarget , targets
targets : ntargets | ptargets
ntarget : NAME | nsuffixed . NAME | nsuffixed [ expr ]
ptarget : psuffixed . NAME | psuffixed [ expr ]
nsuffixed : NAME | nsuffixed . NAME | nsuffixed [ expr ] | nsuffixed arguments
psuffixed : ( expr ) | psuffixed . NAME | psuffixed [ expr ] | psuffixed arguments
arguments : ( ) | ( exprs )
names  : NAME | names , NAME
params : ( ) | ( names )
exprs  : exprso | exprsc
exprs~ : expr~ | expr , exprs~
expr   : expro | exprc
expr~  : unary~ | unary operator expr~
unary  : unaryo | unaryc
unary~ : not unary~ | - unary~ | simple~
simpleo : nsuffixed | psuffixed
simplec : nil | true | false | INT | STRING | function params blockN end
simplec : { } | { fields } | { fields , }
fields : field | fields , field
field  : expr | NAME = expr | [ expr ] = expr
operator : or | and | == | ~= | < | <= | > | >= | .. | + | - | * | // | %
`

// rule is one way to write a symbol; symbols that have rules are no tokens.
type rule struct {
	symbol string
	parts  []string
}

type grammar struct {
	rules    []rule
	of       map[string][]int
	nullable map[string]bool
}

func readGrammar() *grammar {
	g := &grammar{of: map[string][]int{}, nullable: map[string]bool{}}
	for _, line := range strings.Split(strings.TrimSpace(grammarText), "\n") {
		symbol, ways, _ := strings.Cut(line, ":")
		for _, way := range strings.Split(ways, "|") {
			symbol = strings.TrimSpace(symbol)
			switch {
			case strings.Contains(symbol, "@"):
				g.add(symbol, way, "@", "L", "N")
			case strings.Contains(symbol, "~"):
				g.add(symbol, way, "~", "o", "c")
			default:
				g.add(symbol, way, "", "")
			}
		}
	}
	for size := -1; size != len(g.nullable); {
		size = len(g.nullable)
		for _, r := range g.rules {
			if !slices.ContainsFunc(r.parts, func(s string) bool { return !g.nullable[s] }) {
				g.nullable[r.symbol] = true
			}
		}
	}
	return g
}

func (g *grammar) add(symbol, way, mark string, forms ...string) {
	for _, form := range forms {
		fill := func(s string) string {
			if mark == "" || s == "~=" {
				return s
			}
			return strings.ReplaceAll(s, mark, form)
		}
		r := rule{symbol: fill(symbol)}
		for _, part := range strings.Fields(way) {
			r.parts = append(r.parts, fill(part))
		}
		g.of[r.symbol] = append(g.of[r.symbol], len(g.rules))
		g.rules = append(g.rules, r)
	}
}

// item is a rule that was begun at a token and has come to its part dot.
type item struct{ rule, dot, from int }

// chart has for each number of tokens read all items that are possible then,
// so what can be read next is known without choosing a way (Earley's method).
type chart struct {
	g    *grammar
	sets []map[item]bool
}

func newChart(g *grammar) *chart {
	c := &chart{g: g}
	var first []item
	for _, r := range g.of["blockN"] {
		first = append(first, item{r, 0, 0})
	}
	c.push(first)
	return c
}

func (c *chart) part(i item) string {
	parts := c.g.rules[i.rule].parts
	if i.dot == len(parts) {
		return ""
	}
	return parts[i.dot]
}

func (c *chart) push(work []item) {
	set := map[item]bool{}
	c.sets = append(c.sets, set)
	for len(work) > 0 {
		i := work[len(work)-1]
		work = work[:len(work)-1]
		if set[i] {
			continue
		}
		set[i] = true
		next := c.part(i)
		if next == "" {
			for j := range c.sets[i.from] {
				if c.part(j) == c.g.rules[i.rule].symbol {
					work = append(work, item{j.rule, j.dot + 1, j.from})
				}
			}
			continue
		}
		for _, r := range c.g.of[next] {
			work = append(work, item{r, 0, len(c.sets) - 1})
		}
		if c.g.nullable[next] {
			work = append(work, item{i.rule, i.dot + 1, i.from})
		}
	}
}

// behind answers the items that a token leads to; none if it can't come next.
func (c *chart) behind(token string) []item {
	var next []item
	for i := range c.sets[len(c.sets)-1] {
		if c.part(i) == token {
			next = append(next, item{i.rule, i.dot + 1, i.from})
		}
	}
	return next
}

func (c *chart) read(token string) {
	c.push(c.behind(token))
}

func (c *chart) back() {
	c.sets = c.sets[:len(c.sets)-1]
}

func (c *chart) whole() bool {
	for i := range c.sets[len(c.sets)-1] {
		if c.part(i) == "" && i.from == 0 && c.g.rules[i.rule].symbol == "blockN" {
			return true
		}
	}
	return false
}

// alphabet is every kind of token, as the grammar names it.
var alphabet = append(strings.Fields(lexWords+" == ~= <= >= // .. + - * % < > = ( ) { } [ ] ; , ."), "NAME", "INT", "STRING")

func written(token string) string {
	switch token {
	case "NAME":
		return "a"
	case "INT":
		return "1"
	case "STRING":
		return "'s'"
	}
	return token
}

func checkSyntaxAt(t *testing.T, src string, at int) {
	t.Helper()
	list, code, got := impl.Parse([]byte(src))
	if code != impl.CodeSyntax || got != at || len(list) != 0 {
		t.Errorf("%q: code %d at %d with %d nodes, want CodeSyntax at %d", src, code, got, len(list), at)
	}
}

func checkParses(t *testing.T, src string) {
	t.Helper()
	list, code, at := impl.Parse([]byte(src))
	if code != impl.CodeOK || at != 0 || !impl.ValidTree(list) {
		t.Errorf("%q: code %d at %d, %d nodes, want a valid tree", src, code, at, len(list))
	}
}

// checkNext holds Parse against the chart: for what was read so far, and for
// each token that may or may not come behind it. It answers those that may.
func checkNext(t *testing.T, c *chart, src string) []string {
	t.Helper()
	if c.whole() {
		checkParses(t, src)
	} else {
		checkSyntaxAt(t, src, len(src))
	}
	var possible []string
	for _, token := range alphabet {
		longer := src + " " + written(token)
		if len(c.behind(token)) > 0 {
			possible = append(possible, token)
			continue
		}
		checkSyntaxAt(t, longer, len(src)+1)
		checkSyntaxAt(t, longer+" a = 1", len(src)+1)
	}
	return possible
}

func checkAllShort(t *testing.T, c *chart, src string, left int) {
	for _, token := range checkNext(t, c, src) {
		if left > 0 {
			c.read(token)
			checkAllShort(t, c, src+" "+written(token), left-1)
			c.back()
		}
	}
}

func TestParseEveryShortSource(t *testing.T) {
	checkAllShort(t, newChart(readGrammar()), "", 3)
}

// Walks through the grammar by chance; tokens that close something are taken
// more often, so that some walks come out of what they opened.
func TestParseAlongTheGrammar(t *testing.T) {
	closing := strings.Fields("end ) } ] until do then = ;")
	r := rand.New(rand.NewSource(5))
	g := readGrammar()
	for range 60 {
		c, src := newChart(g), ""
		for range 10 + r.Intn(50) {
			possible := checkNext(t, c, src)
			if len(possible) == 0 {
				break
			}
			for _, token := range closing {
				if slices.Contains(possible, token) && r.Intn(2) == 0 {
					possible = []string{token}
				}
			}
			token := possible[r.Intn(len(possible))]
			c.read(token)
			src += " " + written(token)
		}
	}
}
