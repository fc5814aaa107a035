package tests

import (
	"math/rand"
	"slices"
	"strings"
	"testing"

	"loop.example/s02245/impl"
)

func checkPrints(t *testing.T, list tree, want string) {
	t.Helper()
	got := impl.PrintTree(list)
	if string(got) != want {
		t.Errorf("printed %q\n   want %q", got, want)
	}
	checkTree(t, want, list)
}

func checkPrintsExpr(t *testing.T, expr tree, want string) {
	t.Helper()
	checkPrints(t, returnOf(expr), "return "+want+";\n")
}

// statementPrints has every kind of statement with its lines at level 0.
func statementPrints() map[string]tree {
	a, b, one := nameOf("a"), nameOf("b"), intOf(1)
	call := of(impl.NodeCallStat, of(impl.NodeCall, nameOf("f"), one, a))
	body, empty := blockOf(call), blockOf()
	return map[string]tree{
		"local a;":                                 with(impl.NodeLocal, []string{"a"}),
		"local a, b;":                              with(impl.NodeLocal, []string{"a", "b"}),
		"local a = 1;":                             with(impl.NodeLocal, []string{"a"}, one),
		"local a, b = 1, b, a;":                    with(impl.NodeLocal, []string{"a", "b"}, one, b, a),
		"local function f()\nend;":                 with(impl.NodeLocFunc, []string{"f"}, of(impl.NodeFunc, empty)),
		"local function f(a)\n  f(1, a);\nend;":    with(impl.NodeLocFunc, []string{"f"}, with(impl.NodeFunc, []string{"a"}, body)),
		"local function f(a, b)\n  f(1, a);\nend;": with(impl.NodeLocFunc, []string{"f"}, with(impl.NodeFunc, []string{"a", "b"}, body)),
		"a = 1;":                                     assignOf([]tree{a}, one),
		"a, b = 1, a, b;":                            assignOf([]tree{a, b}, one, a, b),
		"a.b, b[a], a[1] = 1;":                       assignOf([]tree{of(impl.NodeIndex, a, textOf("b")), of(impl.NodeIndex, b, a), of(impl.NodeIndex, a, one)}, one),
		"do\nend;":                                   of(impl.NodeDo, empty),
		"do\n  f(1, a);\n  f(1, a);\nend;":           of(impl.NodeDo, blockOf(call, call)),
		"while a do\nend;":                           of(impl.NodeWhile, a, empty),
		"while a do\n  f(1, a);\n  break;\nend;":     of(impl.NodeWhile, a, blockOf(call, of(impl.NodeBreak))),
		"repeat\nuntil a;":                           of(impl.NodeRepeat, empty, a),
		"repeat\n  f(1, a);\nuntil a;":               of(impl.NodeRepeat, body, a),
		"if a then\nend;":                            of(impl.NodeIf, a, empty),
		"if a then\n  f(1, a);\nelse\nend;":          of(impl.NodeIf, a, body, empty),
		"if a then\nelseif b then\n  f(1, a);\nend;": of(impl.NodeIf, a, empty, b, body),
		"if a then\nelseif b then\nelseif 1 then\nelse\n  f(1, a);\nend;": of(impl.NodeIf, a, empty, b, empty, one, empty, body),
		"for i = 1, a do\nend;":                with(impl.NodeFor, []string{"i"}, one, a, empty),
		"for i = 1, a, b do\n  f(1, a);\nend;": with(impl.NodeFor, []string{"i"}, one, a, b, body),
		"f(1, a);":                             call,
		"f();":                                 of(impl.NodeCallStat, of(impl.NodeCall, nameOf("f"))),
		"return;":                              of(impl.NodeReturn),
		"return 1, a;":                         of(impl.NodeReturn, one, a),
		"a = function()\nend;":                 assignOf([]tree{a}, of(impl.NodeFunc, empty)),
		"f(function(a, b)\n  return;\nend, {function()\nend}, 1);": of(impl.NodeCallStat, of(impl.NodeCall, nameOf("f"),
			with(impl.NodeFunc, []string{"a", "b"}, returnOf()), of(impl.NodeTable, one, of(impl.NodeFunc, empty)), one)),
		"while function()\n  do\n    f(1, a);\n  end;\nend do\nend;": of(impl.NodeWhile, of(impl.NodeFunc, blockOf(of(impl.NodeDo, body))), empty),
		"repeat\nuntil function()\n  f(1, a);\nend;":                 of(impl.NodeRepeat, empty, of(impl.NodeFunc, body)),
		"if function()\nend then\nelseif function()\n  f(1, a);\nend then\nend;": of(impl.NodeIf,
			of(impl.NodeFunc, empty), empty, of(impl.NodeFunc, body), empty),
		"(function()\nend)();": of(impl.NodeCallStat, of(impl.NodeCall, of(impl.NodeFunc, empty))),
	}
}

func shifted(lines string) string {
	return "  " + strings.ReplaceAll(lines, "\n", "\n  ")
}

func TestPrintEveryStatementAtSeveralLevels(t *testing.T) {
	a := nameOf("a")
	for lines, stat := range statementPrints() {
		list, want := blockOf(stat), lines
		checkPrints(t, list, want+"\n")
		for range 3 {
			deeper := shifted(want)
			checkPrints(t, blockOf(of(impl.NodeDo, list), stat), "do\n"+deeper+"\nend;\n"+lines+"\n")
			checkPrints(t, blockOf(of(impl.NodeWhile, a, list)), "while a do\n"+deeper+"\nend;\n")
			checkPrints(t, blockOf(of(impl.NodeRepeat, list, a)), "repeat\n"+deeper+"\nuntil a;\n")
			checkPrints(t, blockOf(of(impl.NodeIf, a, list, a, list, list)), "if a then\n"+deeper+"\nelseif a then\n"+deeper+"\nelse\n"+deeper+"\nend;\n")
			checkPrints(t, blockOf(with(impl.NodeFor, []string{"i"}, a, a, list)), "for i = a, a do\n"+deeper+"\nend;\n")
			checkPrints(t, blockOf(with(impl.NodeLocFunc, []string{"f"}, of(impl.NodeFunc, list))), "local function f()\n"+deeper+"\nend;\n")
			checkPrints(t, returnOf(of(impl.NodeFunc, list), a), "return function()\n"+deeper+"\nend, a;\n")
			list, want = blockOf(of(impl.NodeDo, list)), "do\n"+deeper+"\nend;"
		}
	}
	checkPrints(t, blockOf(), "")
}

func TestPrintLeaves(t *testing.T) {
	cases := map[string]tree{
		"nil": of(impl.NodeNil), "true": of(impl.NodeTrue), "false": of(impl.NodeFalse),
		"0": intOf(0), "7": intOf(7), "9223372036854775807": intOf(1<<63 - 1),
		"0xffffffffffffffff": intOf(-1), "0x8000000000000000": intOf(-1 << 63), "0xfffffffffffffff0": intOf(-16),
		"-5": of(impl.NodeNeg, intOf(5)), "-0xfffffffffffffffb": of(impl.NodeNeg, intOf(-5)),
		`""`: textOf(""), `"a'b"`: textOf("a'b"), `"\n\t\\\"\x00\xff"`: textOf("\n\t\\\"\x00\xff"),
		"a": nameOf("a"), "_x9": nameOf("_x9"),
		"function()\nend": of(impl.NodeFunc, blockOf()), "function(a, b)\nend": with(impl.NodeFunc, []string{"a", "b"}, blockOf()),
	}
	for want, expr := range cases {
		checkPrintsExpr(t, expr, want)
	}
}

func TestPrintIndexesAndCalls(t *testing.T) {
	a, one := nameOf("a"), intOf(1)
	index := func(o, k tree) tree { return of(impl.NodeIndex, o, k) }
	keys := map[string]tree{
		".b": textOf("b"), "._": textOf("_"), ".Nil": textOf("Nil"), `["nil"]`: textOf("nil"), `["end"]`: textOf("end"), `[""]`: textOf(""),
		`["1"]`: textOf("1"), `["a b"]`: textOf("a b"), `["a\n"]`: textOf("a\n"), "[1]": one, "[a]": a, "[a + 1]": binOf(impl.OpAdd, a, one),
		"[{}]": of(impl.NodeTable), "[0xffffffffffffffff]": intOf(-1), "[a.b]": index(a, textOf("b")),
	}
	for want, key := range keys {
		checkPrintsExpr(t, index(a, key), "a"+want)
		checkPrints(t, blockOf(assignOf([]tree{index(a, key)}, one)), "a"+want+" = 1;\n")
	}
	for kind := impl.NodeNil; kind <= impl.NodeNeg; kind++ {
		object := smallest(kind)
		printed := string(impl.PrintTree(returnOf(object)))
		inner := strings.TrimSuffix(strings.TrimPrefix(printed, "return "), ";\n")
		if kind != impl.NodeName && kind != impl.NodeIndex && kind != impl.NodeCall {
			inner = "(" + inner + ")"
		}
		checkPrintsExpr(t, index(object, textOf("b")), inner+".b")
		checkPrintsExpr(t, index(object, one), inner+"[1]")
		checkPrintsExpr(t, of(impl.NodeCall, object), inner+"()")
		checkPrintsExpr(t, of(impl.NodeCall, object, a, one), inner+"(a, 1)")
		checkPrints(t, blockOf(of(impl.NodeCallStat, of(impl.NodeCall, object))), inner+"();\n")
	}
	checkPrintsExpr(t, of(impl.NodeCall, a, binOf(impl.OpAdd, a, one), of(impl.NodeOr, a, a)), "a(a + 1, a or a)")
}

func TestPrintTables(t *testing.T) {
	a, x := nameOf("a"), textOf("x")
	cases := map[string][]tree{
		"{}":                         {},
		"{a}":                        {intOf(1), a},
		"{a, a, a}":                  {intOf(1), a, intOf(2), a, intOf(3), a},
		"{[2] = a, a, a}":            {intOf(2), a, intOf(1), a, intOf(2), a},
		"{[0] = a, a, [1] = a}":      {intOf(0), a, intOf(1), a, intOf(1), a},
		"{a, [3] = a, a, a}":         {intOf(1), a, intOf(3), a, intOf(2), a, intOf(3), a},
		"{x = a, a, x = a, a}":       {x, a, intOf(1), a, x, a, intOf(2), a},
		"{[0xffffffffffffffff] = a}": {intOf(-1), a},
		`{["end"] = a, ["1"] = a, [""] = a, ends = a}`: {textOf("end"), a, textOf("1"), a, textOf(""), a, textOf("ends"), a},
		"{[a] = a, [a.x] = a, [nil] = a, [-1] = a}":    {a, a, of(impl.NodeIndex, a, x), a, of(impl.NodeNil), a, of(impl.NodeNeg, intOf(1)), a},
		"{a == a, {a}, x = {x = a}}": {intOf(1), binOf(impl.OpEq, a, a), intOf(2), of(impl.NodeTable, intOf(1), a),
			x, of(impl.NodeTable, x, a)},
		"{[function()\nend] = function()\n  return;\nend}": {of(impl.NodeFunc, blockOf()), of(impl.NodeFunc, returnOf())},
	}
	for want, parts := range cases {
		checkPrintsExpr(t, of(impl.NodeTable, parts...), want)
	}
}

func TestPrintEveryPairOfOperators(t *testing.T) {
	a, b, c := nameOf("a"), nameOf("b"), nameOf("c")
	for _, outer := range signLines() {
		for _, inner := range signLines() {
			left, right := "(a "+inner.sign+" b)", "(b "+inner.sign+" c)"
			alike := inner.line == outer.line
			if inner.line > outer.line || alike && inner.sign != ".." {
				left = strings.Trim(left, "()")
			}
			if inner.line > outer.line || alike && inner.sign == ".." {
				right = strings.Trim(right, "()")
			}
			checkPrintsExpr(t, join(outer.node, join(inner.node, a, b), c), left+" "+outer.sign+" c")
			checkPrintsExpr(t, join(outer.node, a, join(inner.node, b, c)), "a "+outer.sign+" "+right)
		}
	}
}

func TestPrintUnaryOperators(t *testing.T) {
	a, b := nameOf("a"), nameOf("b")
	not := func(x tree) tree { return of(impl.NodeNot, x) }
	neg := func(x tree) tree { return of(impl.NodeNeg, x) }
	for _, o := range signLines() {
		checkPrintsExpr(t, not(join(o.node, a, b)), "not (a "+o.sign+" b)")
		checkPrintsExpr(t, neg(join(o.node, a, b)), "-(a "+o.sign+" b)")
		checkPrintsExpr(t, join(o.node, not(a), neg(b)), "not a "+o.sign+" -b")
		checkPrintsExpr(t, join(o.node, neg(a), not(b)), "-a "+o.sign+" not b")
	}
	cases := map[string]tree{
		"-(-a)": neg(neg(a)), "not not a": not(not(a)), "not -a": not(neg(a)), "-not a": neg(not(a)), "-not -a": neg(not(neg(a))),
		"-(-(-a))": neg(neg(neg(a))), "-(-not a)": neg(neg(not(a))), "-a.x": neg(of(impl.NodeIndex, a, textOf("x"))), "not a()": not(of(impl.NodeCall, a)),
		"-{}": neg(of(impl.NodeTable)), "not function()\nend": not(of(impl.NodeFunc, blockOf())), `-"s"`: neg(textOf("s")), "-nil": neg(of(impl.NodeNil)),
	}
	for want, expr := range cases {
		checkPrintsExpr(t, expr, want)
	}
}

func TestParseOfPrintTree(t *testing.T) {
	r := rand.New(rand.NewSource(7))
	for range 3000 {
		list := randomTree(r, 1+r.Intn(80))
		src := impl.PrintTree(list)
		if len(src) <= impl.MaxSource {
			checkTree(t, string(src), list)
		}
	}
}

func TestParseOfPrintTreeAtTheLimits(t *testing.T) {
	words := strings.Split(strings.Repeat("a ", impl.MaxArgs-1)+"a", " ")
	a := nameOf("a")
	many := repeated(impl.MaxArgs, a)
	not := tree{{Kind: impl.NodeNot, Count: 1}}
	for _, list := range []tree{
		returnOf(stacked(impl.MaxDeep-3, not, a)), returnOf(textOf(strings.Repeat("x", impl.MaxText))), returnOf(nameOf(strings.Repeat("x", impl.MaxText))),
		returnOf(of(impl.NodeIndex, a, textOf(strings.Repeat("x", impl.MaxText)))), returnOf(of(impl.NodeTable, textOf(strings.Repeat("x", impl.MaxText)), a)),
		returnOf(many...), blockOf(with(impl.NodeLocal, words, many...)), blockOf(assignOf(many, many...)), returnOf(of(impl.NodeCall, append(many, a)...)),
		returnOf(with(impl.NodeFunc, words, blockOf())), returnOf(of(impl.NodeTable, repeated(1000, a)...)),
	} {
		src := impl.PrintTree(list)
		if len(src) == 0 || len(src) > impl.MaxSource {
			t.Errorf("printed in %d bytes", len(src))
		}
		checkTree(t, string(src), list)
	}
}

// bracketPairs answers the places of all parentheses that belong together and
// stand in no text.
func bracketPairs(t *testing.T, src []byte) [][2]int {
	var open []int
	var pairs [][2]int
	tokens, code, _ := impl.Lex(src)
	if code != impl.CodeOK {
		t.Fatalf("%q: code %d", src, code)
	}
	for _, token := range tokens {
		switch src[token.At] {
		case '(':
			open = append(open, token.At)
		case ')':
			pairs = append(pairs, [2]int{open[len(open)-1], token.At})
			open = open[:len(open)-1]
		}
	}
	return pairs
}

// Without any two of the parentheses the source would be another tree or none:
// none is printed that need not stand.
func TestPrintNoNeedlessParentheses(t *testing.T) {
	r := rand.New(rand.NewSource(8))
	for range 800 {
		list := randomTree(r, 1+r.Intn(40))
		src := impl.PrintTree(list)
		if len(src) > impl.MaxSource {
			continue
		}
		for _, pair := range bracketPairs(t, src) {
			less := slices.Concat(src[:pair[0]], src[pair[0]+1:pair[1]], src[pair[1]+1:])
			if again, code, _ := impl.Parse(less); code == impl.CodeOK && sameTree(again, list) {
				t.Errorf("%q: the parentheses at %d and %d need not stand", src, pair[0], pair[1])
			}
		}
	}
}
