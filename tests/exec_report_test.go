package tests

import (
	"bytes"
	"fmt"
	"math"
	"slices"
	"strings"
	"testing"

	"loop.example/s02245/impl"
)

func sameReport(a, b impl.Report) bool {
	return a.Code == b.Code && a.At == b.At && slices.EqualFunc(a.Prints, b.Prints, bytes.Equal) && bytes.Equal(a.Error, b.Error) && a.Steps == b.Steps
}

func showReport(r impl.Report) string {
	return cut(fmt.Sprintf("code %d at %d, %d steps, error %q, prints %q", r.Code, r.At, r.Steps, r.Error, r.Prints))
}

func refusedWith(code, at int) impl.Report { return impl.Report{Code: code, At: at} }

func copyLines(lines [][]byte) [][]byte {
	out := make([][]byte, len(lines))
	for i, line := range lines {
		out[i] = bytes.Clone(line)
	}
	return out
}

// byStages is the report to which the stages come one after the other, the
// program being stored and loaded in between.
func byStages(t *testing.T, src string, inputs [][]byte, budget int) impl.Report {
	t.Helper()
	tooLong := func(line []byte) bool { return len(line) > 5000 }
	if budget < 0 || budget > 100000 || len(inputs) > 1000 || slices.ContainsFunc(inputs, tooLong) {
		return refusedWith(impl.CodeBad, 0)
	}
	tr, code, at := impl.Parse([]byte(src))
	if code != impl.CodeOK {
		return refusedWith(code, at)
	}
	p, code := impl.Compile(tr)
	if code != impl.CodeOK {
		return refusedWith(code, 0)
	}
	loaded, code := impl.LoadProgram(impl.SaveProgram(p))
	if !impl.Check(p) || code != impl.CodeOK || !sameProgram(loaded, p) {
		t.Errorf("%s\ncompiles to what does not come back: code %d", cut(src), code)
	}
	o := impl.Run(loaded, inputs, budget)
	if o.Code != impl.CodeOK && o.Code != impl.CodeError && o.Code != impl.CodeBudget {
		t.Errorf("%s\nruns to %s", cut(src), showOutcome(o))
	}
	return impl.Report{Code: o.Code, Prints: o.Prints, Error: o.Error, Steps: o.Steps}
}

// executed holds the report of a source against that of its stages and of what
// Tidy makes of it.
func executed(t *testing.T, src string, inputs [][]byte, budget int) impl.Report {
	t.Helper()
	given, lines := []byte(src), copyLines(inputs)
	r := impl.Exec(given, lines, budget)
	if string(given) != src || !slices.EqualFunc(lines, inputs, bytes.Equal) {
		t.Errorf("%s\nan argument was written into", cut(src))
	}
	if want := byStages(t, src, inputs, budget); !sameReport(r, want) {
		t.Errorf("%s\nbudget %d: %s\nby stages %s", cut(src), budget, showReport(r), showReport(want))
	}
	text, ok := tidied(t, src)
	if !ok {
		return r
	}
	if again := impl.Exec([]byte(text), inputs, budget); !sameReport(again, r) {
		t.Errorf("%s\nbudget %d: %s\ntidied %s", cut(src), budget, showReport(r), showReport(again))
	}
	return r
}

// tidied answers what Tidy does, and whether that is a source again.
func tidied(t *testing.T, src string) (string, bool) {
	t.Helper()
	given := []byte(src)
	text, code, at := impl.Tidy(given)
	tr, wantCode, wantAt := impl.Parse([]byte(src))
	if want := impl.PrintTree(tr); string(text) != string(want) || code != wantCode || at != wantAt || string(given) != src {
		t.Errorf("%s\ntidied: code %d at %d, %s", cut(src), code, at, cut(string(text)))
	}
	if code != impl.CodeOK || len(text) > impl.MaxSource {
		return string(text), false
	}
	again, code, at := impl.Tidy(text)
	if string(again) != string(text) || code != impl.CodeOK || at != 0 {
		t.Errorf("%s\ntidied again: code %d at %d, %s", cut(string(text)), code, at, cut(string(again)))
	}
	return string(text), true
}

// checkExec asks for how a source ends, in the words of endOf, which is told by
// its meaning as well.
func checkExec(t *testing.T, src, want string, inputs ...string) impl.Report {
	t.Helper()
	lines := inputsOf(inputs...)
	r := executed(t, src, lines, impl.MaxBudget)
	if got := endOf(impl.Outcome{Code: r.Code, Prints: r.Prints, Error: r.Error}); got != want || r.At != 0 {
		t.Errorf("%s\nshows %s\nwant  %s", cut(src), cut(got), cut(want))
	}
	checkMeaning(t, src, lines, impl.MaxBudget, r)
	return r
}

// checkMeaning holds a report against what the source means. Where the budget
// was used up, that has gone on further.
func checkMeaning(t *testing.T, src string, inputs [][]byte, budget int, r impl.Report) map[int]int {
	t.Helper()
	want, told := meaningOf(src, inputs, budget)
	want.Steps = r.Steps
	if r.Code != impl.CodeBudget && !sameReport(r, want) || !beginsWith(want.Prints, r.Prints) {
		t.Errorf("%s\nbudget %d: %s\nmeant %s", src, budget, showReport(r), showReport(want))
	}
	return told
}

func checkRefusedSource(t *testing.T, src string, code, at int) {
	t.Helper()
	for _, budget := range []int{0, 1, 1000, impl.MaxBudget} {
		if r := executed(t, src, nil, budget); !sameReport(r, refusedWith(code, at)) {
			t.Errorf("%s\nbudget %d: %s, want code %d at %d", cut(src), budget, showReport(r), code, at)
		}
	}
}

func TestExecOfTheExample(t *testing.T) {
	src := `
local function count(n)
  for i = 1, n do yield(i * i) end
  return "end"
end
local co = create(count)
local ok, v = resume(co, 2)
while status(co) ~= "dead" do
  print(v) ok, v = resume(co)
end
print(ok, v)
`
	r := checkExec(t, src, "1|4|true end")
	if again := executed(t, src, nil, r.Steps); !sameReport(again, r) {
		t.Error(showReport(again))
	}
	for budget := range r.Steps {
		if again := executed(t, src, nil, budget); again.Code != impl.CodeBudget || again.Steps != budget || !beginsWith(r.Prints, again.Prints) {
			t.Errorf("budget %d: %s", budget, showReport(again))
		}
	}
}

// ask is what a run is asked for beside its program.
type ask struct {
	inputs [][]byte
	budget int
}

func wrongAsks() []ask {
	long := make([]byte, impl.MaxText+1)
	many := make([][]byte, impl.MaxInputs+1)
	asks := []ask{{many, 10}, {make([][]byte, 5000), 10}, {append(many[:1000:1000], long), 10}, {many, -1}, {many, math.MaxInt}}
	for _, budget := range []int{-1, -2, -100000, math.MinInt, impl.MaxBudget + 1, impl.MaxBudget * 2, math.MaxInt32 + 1, math.MaxInt} {
		asks = append(asks, ask{nil, budget}, ask{[][]byte{long}, budget}, ask{[][]byte{{'a'}}, budget})
	}
	for _, inputs := range [][][]byte{{long}, {nil, long}, {long, nil}, append(slices.Clone(many[:999]), long)} {
		asks = append(asks, ask{inputs, 0}, ask{inputs, 1000}, ask{inputs, impl.MaxBudget})
	}
	return asks
}

// What a run does not take comes ahead of all that is wrong with the source.
func TestExecOfWrongAsks(t *testing.T) {
	for _, src := range []string{
		"", "print(1)", "(", "@", "x = 1", "print = 1", "x = x", "error('x')", "while true do end", "print(read())", "\xff\x00", "x = = '",
		strings.Repeat(" ", impl.MaxSource+1), strings.Repeat("local a ", impl.MaxSlots+1), bracketed{"print(", "1", ")"}.source(impl.MaxArgs + 1),
	} {
		for _, a := range wrongAsks() {
			if r := executed(t, src, a.inputs, a.budget); !sameReport(r, refusedWith(impl.CodeBad, 0)) {
				t.Errorf("%s\n%d inputs, budget %d: %s", cut(src), len(a.inputs), a.budget, showReport(r))
			}
		}
	}
}

// The first of several faults counts: that of Lex, then of the grammar, then of
// the tree's limits, then of names, then of the program's limits.
func TestExecNamesTheFirstFault(t *testing.T) {
	digits := strings.Repeat("1", impl.MaxDigits+1)
	args := bracketed{"f(", "1", ")"}.source(impl.MaxArgs + 1)
	slots := strings.Repeat("local a ", impl.MaxSlots+1)
	long := strings.Repeat(" ", impl.MaxSource)
	for _, one := range []struct {
		src      string
		code, at int
	}{
		// a source that is too long
		{"@" + long, impl.CodeLimit, impl.MaxSource}, {"x = = " + long, impl.CodeLimit, impl.MaxSource}, {"x = 1 " + long, impl.CodeLimit, impl.MaxSource}, {long + "@", impl.CodeLimit, impl.MaxSource},
		// no token ahead of no grammar, wherever it stands
		{"x = = '", impl.CodeSyntax, 6}, {") @", impl.CodeSyntax, 2}, {"= " + digits, impl.CodeLimit, 2}, {"print(1) ) 0x", impl.CodeSyntax, 11}, {"break \\", impl.CodeSyntax, 6},
		{"' @ " + digits, impl.CodeSyntax, 0}, {digits + " '", impl.CodeLimit, 0}, {args + " " + digits, impl.CodeLimit, len(args) + 1}, {"x = 1 ~", impl.CodeSyntax, 6},
		// the grammar ahead of the tree's limits, names and the program's limits
		{args + " )", impl.CodeSyntax, len(args) + 1}, {"x = y )", impl.CodeSyntax, 6}, {"print = 1 )", impl.CodeSyntax, 10}, {"x", impl.CodeSyntax, 1}, {"x = ", impl.CodeSyntax, 4},
		{"x = 1 break", impl.CodeSyntax, 6}, {"x() return 1 x()", impl.CodeSyntax, 13}, {slots + "local", impl.CodeSyntax, len(slots) + 5}, {"print = x ]", impl.CodeSyntax, 10},
		{"error('x') end", impl.CodeSyntax, 11}, {"while true do", impl.CodeSyntax, 13}, {"print(1) print", impl.CodeSyntax, 14},
		// the tree's limits ahead of names and the program's limits
		{args, impl.CodeLimit, 0}, {"x = 1 " + args, impl.CodeLimit, 0}, {"print = 1 " + args, impl.CodeLimit, 0}, {slots + args, impl.CodeLimit, 0},
		// names ahead of the program's limits
		{slots + "x = 1", impl.CodeName, 0}, {slots + "print = 1", impl.CodeName, 0}, {"x() " + slots, impl.CodeName, 0}, {"type, a = 1 " + slots, impl.CodeName, 0},
		// free names beside built-in functions that are assigned to
		{"x = 1 print = 1", impl.CodeName, 0}, {"print = 1 x = 1", impl.CodeName, 0}, {"print = x", impl.CodeName, 0}, {"x, print = 1", impl.CodeName, 0}, {"print.x = y", impl.CodeName, 0},
		// and all of it ahead of the run
		{"print(1) error('x') x = 1", impl.CodeName, 0}, {"print(1) if false then yield = 1 end", impl.CodeName, 0}, {"while true do end return x", impl.CodeName, 0},
		{"return function() return function() return x end end", impl.CodeName, 0}, {"print(1) error(1) " + slots, impl.CodeLimit, 0}, {slots, impl.CodeLimit, 0},
	} {
		checkRefusedSource(t, one.src, one.code, one.at)
	}
	for _, name := range strings.Fields("print read tostring type pcall error create resume yield status") {
		for _, src := range builtinTargets(name) {
			checkRefusedSource(t, src, impl.CodeName, 0)
			if r := executed(t, "local "+name+" "+src, nil, 1000); r.Code != impl.CodeOK && r.Code != impl.CodeError {
				t.Errorf("local %s %s: %s", name, src, showReport(r))
			}
		}
	}
}

// Sources of one byte, and of bytes that are no text at all places of one.
func TestExecOfEveryByte(t *testing.T) {
	for c := range 256 {
		src := string([]byte{byte(c)})
		switch letter := c|32 >= 'a' && c|32 <= 'z'; {
		case strings.Contains(" \t\r\n", src):
			checkExec(t, src, "")
		case letter, src == "_", src == "(":
			checkRefusedSource(t, src, impl.CodeSyntax, 1)
		default:
			checkRefusedSource(t, src, impl.CodeSyntax, 0)
		}
	}
	words := []string{"print", "(", "'a'", ",", "1", "..", "2", ")"}
	for i := range len(words) + 1 {
		for _, c := range []string{"\x00", "\xff", "\x80", "@", "~", "!", "\\", "\x7f", "\x0b", "é", "\xc3"} {
			before := strings.Join(words[:i], " ")
			checkRefusedSource(t, before+" "+c+" "+strings.Join(words[i:], " "), impl.CodeSyntax, len(before)+1)
		}
	}
	// in a literal or a comment they are what they are
	checkExec(t, "print('\x00\xff\x80@~\x7f\x0bé') -- \xff\x00", "\x00\xff\x80@~\x7f\x0bé")
}

func TestExecOfEmptySources(t *testing.T) {
	for _, src := range []string{
		"", " ", "\n", "\t", "\r", "\r\n", "  \n\t \r", "--", "-- x", "--\n", "-- x\n\n-- y", "---", "--(", "--'", "--[[ x ]]", "-- \xff\x00\n", strings.Repeat("\n", impl.MaxSource),
		"--" + strings.Repeat("x", impl.MaxSource-2), strings.Repeat("--\n", impl.MaxSource/3),
	} {
		// the one step is that of the return at the end
		if r := executed(t, src, inputsOf("a"), 1); !sameReport(r, impl.Report{Steps: 1}) {
			t.Errorf("%q: %s", cut(src), showReport(r))
		}
		if r := executed(t, src, nil, 0); !sameReport(r, refusedWith(impl.CodeBudget, 0)) {
			t.Errorf("%q: %s", cut(src), showReport(r))
		}
		if text, code, at := impl.Tidy([]byte(src)); len(text) > 0 || code != impl.CodeOK || at != 0 {
			t.Errorf("%q: %q, code %d at %d", cut(src), text, code, at)
		}
	}
	checkRefusedSource(t, ";", impl.CodeSyntax, 0)
	checkRefusedSource(t, "-", impl.CodeSyntax, 0)
	checkRefusedSource(t, "- -x", impl.CodeSyntax, 0)
	if r := impl.Exec(nil, nil, impl.MaxBudget); !sameReport(r, impl.Report{Steps: 1}) {
		t.Error(showReport(r))
	}
}

func TestTidyOfSources(t *testing.T) {
	for src, want := range map[string]string{
		"print( 1 )-- end":                          "print(1);\n",
		"x=y":                                       "x = y;\n",
		"local a;local b=0x10":                      "local a;\nlocal b = 16;\n",
		"return((1+2)*-3)":                          "return (1 + 2) * -3;\n",
		"if a then b()else c()end":                  "if a then\n  b();\nelse\n  c();\nend;\n",
		"a.b['c'][\"d e\"]=-(-1)":                   "a.b.c[\"d e\"] = -(-1);\n",
		"while(x)do break end":                      "while x do\n  break;\nend;\n",
		"print = 0xffffffffffffffff":                "print = 0xffffffffffffffff;\n",
		"local function f(a)return{a,x=1,[2]=3}end": "local function f(a)\n  return {a, x = 1, 3};\nend;\n",
		"x='\x00\t\n'":                              "",
	} {
		text, code, at := impl.Tidy([]byte(src))
		if want == "" {
			if len(text) > 0 || code != impl.CodeSyntax || at != 2 {
				t.Errorf("%q: %q, code %d at %d", src, text, code, at)
			}
			continue
		}
		if string(text) != want || code != impl.CodeOK || at != 0 {
			t.Errorf("%q: %q, code %d at %d, want %q", src, text, code, at, want)
		}
		tidied(t, src)
	}
	// a source that Compile does not take is tidied all the same
	for _, src := range []string{"x = 1", "print = 1", strings.Repeat("local a ", 600)} {
		if text, ok := tidied(t, src); !ok || len(text) == 0 {
			t.Errorf("%s: %s", cut(src), cut(text))
		}
	}
	// what is printed may be too long for a source
	src := strings.Repeat("print()", 800)
	text, ok := tidied(t, src)
	if ok || text != strings.Repeat("print();\n", 800) {
		t.Errorf("%d bytes, starting %s", len(text), cut(text))
	}
	if again, code, at := impl.Tidy([]byte(text)); len(again) > 0 || code != impl.CodeLimit || at != impl.MaxSource {
		t.Errorf("code %d at %d, %d bytes", code, at, len(again))
	}
	if r := executed(t, src, nil, 5000); r.Code != impl.CodeOK || len(r.Prints) != 800 || r.Steps != 1601 {
		t.Error(showReport(r))
	}
}

func TestExecSharesNoMemory(t *testing.T) {
	src := []byte("local a = read() print(a) print(a) print('const') print('const') print('', 'x') error('const')")
	inputs := inputsOf("input", "other")
	want := impl.Exec(bytes.Clone(src), inputsOf("input", "other"), 1000)
	r := impl.Exec(src, inputs, 1000)
	spoil(src)
	for _, line := range inputs {
		spoil(line)
	}
	if !sameReport(r, want) || endOf(impl.Outcome{Code: r.Code, Prints: r.Prints, Error: r.Error}) != "input|input|const|const| x!const" {
		t.Errorf("the answer shares memory with an argument: %s", showReport(r))
	}
	lists := append(slices.Clone(r.Prints), r.Error)
	for i, one := range lists {
		rest := slices.Concat(lists[i+1:]...)
		spoil(append(one, "more"...)[:len(one)])
		if !bytes.Equal(slices.Concat(lists[i+1:]...), rest) {
			t.Errorf("two lists of one answer share memory")
		}
	}
	if again := impl.Exec([]byte("print(1)"), nil, 1000); endOf(impl.Outcome{Code: again.Code, Prints: again.Prints}) != "1" {
		t.Errorf("something was kept: %s", showReport(again))
	}
	src = []byte("local abc = 'text' abc()")
	text, _, _ := impl.Tidy(src)
	spoil(src)
	if string(text) != "local abc = \"text\";\nabc();\n" {
		t.Errorf("the tidied source shares memory with the source: %q", text)
	}
}
