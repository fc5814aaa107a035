package tests

import (
	"fmt"
	"math/rand"
	"strings"
	"testing"

	"loop.example/s02245/impl"
)

func checkTree(t *testing.T, src string, want tree) {
	t.Helper()
	list, code, at := impl.Parse([]byte(src))
	if code != impl.CodeOK || at != 0 {
		t.Errorf("%.200q: code %d at %d", src, code, at)
		return
	}
	if !sameTree(list, want) {
		t.Errorf("%.200q:\n got %.400s\nwant %.400s", src, show(list), show(want))
	}
	if !impl.ValidTree(list) {
		t.Errorf("%.200q: the tree is not valid", src)
	}
}

func TestParseStatements(t *testing.T) {
	a, b, c, f := nameOf("a"), nameOf("b"), nameOf("c"), nameOf("f")
	one, two, empty := intOf(1), intOf(2), of(impl.NodeBlock)
	call := of(impl.NodeCallStat, of(impl.NodeCall, f))
	cases := []struct {
		src  string
		want tree
	}{
		{"local a", with(impl.NodeLocal, []string{"a"})},
		{"local a, a, b", with(impl.NodeLocal, []string{"a", "a", "b"})},
		{"local a = 1", with(impl.NodeLocal, []string{"a"}, one)},
		{"local a, b = 1, 2, a", with(impl.NodeLocal, []string{"a", "b"}, one, two, a)},
		{"local function f() end", with(impl.NodeLocFunc, []string{"f"}, of(impl.NodeFunc, empty))},
		{"local function f(a, b) f() end", with(impl.NodeLocFunc, []string{"f"}, with(impl.NodeFunc, []string{"a", "b"}, blockOf(call)))},
		{"local function f(a, a) end", with(impl.NodeLocFunc, []string{"f"}, with(impl.NodeFunc, []string{"a", "a"}, empty))},
		{"do end", of(impl.NodeDo, empty)},
		{"do f() end", of(impl.NodeDo, blockOf(call))},
		{"while a do f() end", of(impl.NodeWhile, a, blockOf(call))},
		{"while a do break end", of(impl.NodeWhile, a, blockOf(of(impl.NodeBreak)))},
		{"repeat f(); break; until a", of(impl.NodeRepeat, blockOf(call, of(impl.NodeBreak)), a)},
		{"if a then end", of(impl.NodeIf, a, empty)},
		{"if a then f() else end", of(impl.NodeIf, a, blockOf(call), empty)},
		{"if a then elseif b then f() elseif c then end", of(impl.NodeIf, a, empty, b, blockOf(call), c, empty)},
		{"if a then elseif b then else f() end", of(impl.NodeIf, a, empty, b, empty, blockOf(call))},
		{"for i = 1, 2 do f() end", with(impl.NodeFor, []string{"i"}, one, two, blockOf(call))},
		{"for i = 1, 2, a do break end", with(impl.NodeFor, []string{"i"}, one, two, a, blockOf(of(impl.NodeBreak)))},
		{"a = 1", assignOf([]tree{a}, one)},
		{"a, b, c = 1", assignOf([]tree{a, b, c}, one)},
		{"a = 1, 2", assignOf([]tree{a}, one, two)},
		{"a.b, a[b] = 1, 2", assignOf([]tree{of(impl.NodeIndex, a, textOf("b")), of(impl.NodeIndex, a, b)}, one, two)},
		{"(a).b = 1", assignOf([]tree{of(impl.NodeIndex, a, textOf("b"))}, one)},
		{"(a)[1], f().b = 2", assignOf([]tree{of(impl.NodeIndex, a, one), of(impl.NodeIndex, of(impl.NodeCall, f), textOf("b"))}, two)},
		{"f()", call},
		{"(f)()", call},
		{"f(1, 2)", of(impl.NodeCallStat, of(impl.NodeCall, f, one, two))},
		{"a.b(1)", of(impl.NodeCallStat, of(impl.NodeCall, of(impl.NodeIndex, a, textOf("b")), one))},
		{"a[1]()()", of(impl.NodeCallStat, of(impl.NodeCall, of(impl.NodeCall, of(impl.NodeIndex, a, one))))},
		{"(function() end)()", of(impl.NodeCallStat, of(impl.NodeCall, of(impl.NodeFunc, empty)))},
		{"return", of(impl.NodeReturn)},
		{"return 1, a", of(impl.NodeReturn, one, a)},
		{"return (a)", of(impl.NodeReturn, a)},
		{"return (((a)))()", of(impl.NodeReturn, of(impl.NodeCall, a))},
	}
	for _, c := range cases {
		checkTree(t, c.src, blockOf(c.want))
		checkTree(t, c.src+" ;", blockOf(c.want))
		checkTree(t, "do end "+c.src, blockOf(of(impl.NodeDo, empty), c.want))
		checkTree(t, "-- first\n\t"+strings.ReplaceAll(c.src, " ", "\r\n")+"--", blockOf(c.want))
		checkTree(t, "repeat "+c.src+" until a", blockOf(of(impl.NodeRepeat, blockOf(c.want), a)))
		checkTree(t, "do "+c.src+" end f()", blockOf(of(impl.NodeDo, blockOf(c.want)), call))
	}
	checkTree(t, "", empty)
	checkTree(t, " -- nothing\n", empty)
}

// Only a suffixed takes a `(` that stands behind it.
func TestParseParenthesisBehindStatement(t *testing.T) {
	a, f := nameOf("a"), nameOf("f")
	call := of(impl.NodeCallStat, of(impl.NodeCall, f))
	closed := map[string]tree{
		"local a":               with(impl.NodeLocal, []string{"a"}),
		"local a = 1":           with(impl.NodeLocal, []string{"a"}, intOf(1)),
		"a = nil":               assignOf([]tree{a}, of(impl.NodeNil)),
		"a = 's'":               assignOf([]tree{a}, textOf("s")),
		"a = {}":                assignOf([]tree{a}, of(impl.NodeTable)),
		"a = a + 1":             assignOf([]tree{a}, binOf(impl.OpAdd, a, intOf(1))),
		"a = function() end":    assignOf([]tree{a}, of(impl.NodeFunc, blockOf())),
		"do end":                of(impl.NodeDo, blockOf()),
		"repeat until not true": of(impl.NodeRepeat, blockOf(), of(impl.NodeNot, of(impl.NodeTrue))),
		"f();":                  call,
		"a = f;":                assignOf([]tree{a}, f),
	}
	for src, want := range closed {
		checkTree(t, src+"\n(f)()", blockOf(want, call))
	}
	af := of(impl.NodeCall, of(impl.NodeCall, a, f))
	open := map[string]tree{
		"a":              of(impl.NodeCallStat, af),
		"local b = a":    with(impl.NodeLocal, []string{"b"}, af),
		"b = -a":         assignOf([]tree{nameOf("b")}, of(impl.NodeNeg, af)),
		"b = 1 + a":      assignOf([]tree{nameOf("b")}, binOf(impl.OpAdd, intOf(1), af)),
		"b = (a)":        assignOf([]tree{nameOf("b")}, af),
		"repeat until a": of(impl.NodeRepeat, blockOf(), af),
		"return a":       of(impl.NodeReturn, af),
	}
	for src, want := range open {
		checkTree(t, src+"\n(f)()", blockOf(want))
	}
}

func TestParseSimpleExpressions(t *testing.T) {
	cases := map[string]tree{
		"nil": of(impl.NodeNil), "true": of(impl.NodeTrue), "false": of(impl.NodeFalse),
		"0": intOf(0), "007": intOf(7), "0x1F": intOf(31), "9223372036854775807": intOf(1<<63 - 1),
		"9223372036854775808": intOf(-1 << 63), "0xffffffffffffffff": intOf(-1), "18446744073709551617": intOf(1),
		`""`: textOf(""), `'a"b'`: textOf(`a"b`), `"\x00\n\\"`: textOf("\x00\n\\"),
		"_": nameOf("_"), "Nil": nameOf("Nil"), "((a))": nameOf("a"), "(1)": intOf(1),
		"a.b.c":             of(impl.NodeIndex, of(impl.NodeIndex, nameOf("a"), textOf("b")), textOf("c")),
		"a['b'][c]":         of(impl.NodeIndex, of(impl.NodeIndex, nameOf("a"), textOf("b")), nameOf("c")),
		"a(b)(c).d":         of(impl.NodeIndex, of(impl.NodeCall, of(impl.NodeCall, nameOf("a"), nameOf("b")), nameOf("c")), textOf("d")),
		"('s').a":           of(impl.NodeIndex, textOf("s"), textOf("a")),
		"({})[a]":           of(impl.NodeIndex, of(impl.NodeTable), nameOf("a")),
		"(-a)(b)":           of(impl.NodeCall, of(impl.NodeNeg, nameOf("a")), nameOf("b")),
		"-a(b)":             of(impl.NodeNeg, of(impl.NodeCall, nameOf("a"), nameOf("b"))),
		"-1":                of(impl.NodeNeg, intOf(1)),
		"function() end":    of(impl.NodeFunc, blockOf()),
		"function(a,b) end": with(impl.NodeFunc, []string{"a", "b"}, blockOf()),
	}
	for src, want := range cases {
		checkTree(t, "return "+src, returnOf(want))
		checkTree(t, "return ( "+src+" )", returnOf(want))
		checkTree(t, "f(1, "+src+")", blockOf(of(impl.NodeCallStat, of(impl.NodeCall, nameOf("f"), intOf(1), want))))
		checkTree(t, "return {"+src+"}", returnOf(of(impl.NodeTable, intOf(1), want)))
		checkTree(t, "return a["+src+"]", returnOf(of(impl.NodeIndex, nameOf("a"), want)))
	}
}

func TestParseTables(t *testing.T) {
	a, b, x, y := nameOf("a"), nameOf("b"), textOf("x"), textOf("y")
	cases := map[string][]tree{
		"":                                    {},
		"a":                                   {intOf(1), a},
		"a, b":                                {intOf(1), a, intOf(2), b},
		"x = a":                               {x, a},
		"[a] = b":                             {a, b},
		"a, x = b, b":                         {intOf(1), a, x, b, intOf(2), b},
		"[2] = a, a, [1] = b, b":              {intOf(2), a, intOf(1), a, intOf(1), b, intOf(2), b},
		"x = a, y = b, x = b":                 {x, a, y, b, x, b},
		"x == a":                              {intOf(1), binOf(impl.OpEq, nameOf("x"), a)},
		"x.y":                                 {intOf(1), of(impl.NodeIndex, nameOf("x"), y)},
		"x.y == a, b":                         {intOf(1), binOf(impl.OpEq, of(impl.NodeIndex, nameOf("x"), y), a), intOf(2), b},
		"(x), [x] = {a, b}, {}":               {intOf(1), nameOf("x"), nameOf("x"), of(impl.NodeTable, intOf(1), a, intOf(2), b), intOf(2), of(impl.NodeTable)},
		"['x'] = a, [\"y\"] = function() end": {x, a, y, of(impl.NodeFunc, blockOf())},
	}
	for src, parts := range cases {
		checkTree(t, "return {"+src+"}", returnOf(of(impl.NodeTable, parts...)))
		if src != "" {
			checkTree(t, "return {"+src+",}", returnOf(of(impl.NodeTable, parts...)))
			checkTree(t, "a = {"+src+" , } return b", blockOf(assignOf([]tree{a}, of(impl.NodeTable, parts...)), of(impl.NodeReturn, b)))
		}
	}
}

// signLine is an operator and the number of its line: a later one binds tighter.
type signLine struct {
	sign string
	line int
	node impl.Node
}

func signLines() []signLine {
	bin := func(sign string, line, op int) signLine {
		return signLine{sign, line, impl.Node{Kind: impl.NodeBin, N: op}}
	}
	return []signLine{
		{"or", 1, impl.Node{Kind: impl.NodeOr}}, {"and", 2, impl.Node{Kind: impl.NodeAnd}},
		bin("==", 3, 6), bin("~=", 3, 7), bin("<", 3, 8), bin("<=", 3, 9), bin(">", 3, 10), bin(">=", 3, 11),
		bin("..", 4, 5), bin("+", 5, 0), bin("-", 5, 1), bin("*", 6, 2), bin("//", 6, 3), bin("%", 6, 4),
	}
}

func TestParseEveryPairOfOperators(t *testing.T) {
	a, b, c := nameOf("a"), nameOf("b"), nameOf("c")
	for _, p := range signLines() {
		for _, q := range signLines() {
			left := join(q.node, join(p.node, a, b), c)
			right := join(p.node, a, join(q.node, b, c))
			plain := left
			if q.line > p.line || q.line == p.line && q.sign == ".." {
				plain = right
			}
			checkTree(t, fmt.Sprintf("return a %s b %s c", p.sign, q.sign), returnOf(plain))
			checkTree(t, fmt.Sprintf("return (a %s b) %s c", p.sign, q.sign), returnOf(left))
			checkTree(t, fmt.Sprintf("return a %s (b %s c)", p.sign, q.sign), returnOf(right))
		}
	}
}

func TestParseUnaryAheadOfOperators(t *testing.T) {
	a, b := nameOf("a"), nameOf("b")
	for _, unary := range []struct {
		sign string
		kind int
	}{{"not ", impl.NodeNot}, {"-", impl.NodeNeg}} {
		for _, o := range signLines() {
			checkTree(t, "return "+unary.sign+"a "+o.sign+" b", returnOf(join(o.node, of(unary.kind, a), b)))
			checkTree(t, "return a "+o.sign+" "+unary.sign+"b", returnOf(join(o.node, a, of(unary.kind, b))))
			checkTree(t, "return "+unary.sign+"(a "+o.sign+" b)", returnOf(of(unary.kind, join(o.node, a, b))))
			checkTree(t, "return a "+o.sign+" not - not b", returnOf(join(o.node, a, of(impl.NodeNot, of(impl.NodeNeg, of(impl.NodeNot, b))))))
		}
	}
}

func TestParseTreesWrittenByHand(t *testing.T) {
	r := rand.New(rand.NewSource(6))
	for range 4000 {
		list := randomTree(r, 1+r.Intn(60))
		src := writtenByHand(r, list)
		if len(src) <= impl.MaxSource {
			checkTree(t, src, list)
		}
	}
}
