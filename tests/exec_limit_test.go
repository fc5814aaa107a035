package tests

import (
	"bytes"
	"fmt"
	"slices"
	"strings"
	"testing"

	"loop.example/s02245/impl"
)

// checkKept asks for a source that is met with a limit exactly, and for one more
// of the same that breaks it.
func checkKept(t *testing.T, kept, want, broken string) {
	t.Helper()
	checkExec(t, kept, want)
	checkRefusedSource(t, broken, impl.CodeLimit, 0)
}

func TestExecOfTheLongestSources(t *testing.T) {
	filled := func(before, behind string, size int) string {
		return before + strings.Repeat(" ", size-len(before)-len(behind)) + behind
	}
	for _, one := range [][2]string{{"", "print(1)"}, {"print(1)", ""}, {"print(1) --", "x"}, {"print", "(1)"}, {"print(1", ")"}} {
		checkExec(t, filled(one[0], one[1], impl.MaxSource), "1")
		longer := filled(one[0], one[1], impl.MaxSource+1)
		checkRefusedSource(t, longer, impl.CodeLimit, impl.MaxSource)
		if text, code, at := impl.Tidy([]byte(longer)); len(text) > 0 || code != impl.CodeLimit || at != impl.MaxSource {
			t.Errorf("%s tidied: code %d at %d", one, code, at)
		}
	}
	// a text of more than MaxText bytes is found only where there are tokens
	checkRefusedSource(t, filled("print('", "')", impl.MaxSource), impl.CodeLimit, 0)
	checkRefusedSource(t, filled("print('", "')", impl.MaxSource+1), impl.CodeLimit, impl.MaxSource)
	src := strings.Repeat("print(1)", impl.MaxSource/8)
	if r := executed(t, src, nil, 10000); r.Code != impl.CodeOK || len(r.Prints) != 750 || r.Steps != 3*750+1 {
		t.Error(showReport(r))
	}
	checkRefusedSource(t, src+"\n", impl.CodeLimit, impl.MaxSource)
	for _, size := range []int{impl.MaxSource + 2, 10000, 100000} {
		checkRefusedSource(t, strings.Repeat("(", size), impl.CodeLimit, impl.MaxSource)
		checkRefusedSource(t, strings.Repeat("\xff", size), impl.CodeLimit, impl.MaxSource)
	}
}

func TestExecOfTheDeepestTrees(t *testing.T) {
	repeat := strings.Repeat
	// a block, a statement and a call stand above each
	checkKept(t, "print("+repeat("not ", 196)+"1)", "true", "print("+repeat("not ", 197)+"1)")
	checkKept(t, "print("+repeat("- ", 196)+"1)", "1", "print("+repeat("- ", 197)+"1)")
	checkKept(t, "print("+repeat("'a' .. ", 196)+"1)", repeat("a", 196)+"1", "print("+repeat("'a' .. ", 197)+"1)")
	checkKept(t, "print(0"+repeat(" - 1", 196)+")", "-196", "print(0"+repeat(" - 1", 197)+")")
	checkKept(t, "print("+repeat("tostring(", 196)+"1"+repeat(")", 197), "1", "print("+repeat("tostring(", 197)+"1"+repeat(")", 198))
	inBlocks := func(n int) string { return repeat("do ", n) + "print(1) " + repeat("end ", n) }
	checkKept(t, inBlocks(98), "1", inBlocks(99))
	inFunctions := func(n int) string { return "local a " + repeat("(function() ", n) + "print(1) " + repeat("end)() ", n) }
	checkKept(t, inFunctions(49), "1", inFunctions(50))
	inLoops := func(n int) string { return repeat("for i = 1, 1 do ", n) + "print(i) " + repeat("end ", n) }
	checkExec(t, inLoops(40), "1")
	// parentheses are not deep
	checkExec(t, "print("+repeat("(", 2990)+"7"+repeat(")", 2991), "7")
	checkExec(t, "local a = "+repeat("(", 2980)+"print"+repeat(")", 2980)+" a(1)", "1")
	// as many nodes as fit
	checkExec(t, "print({"+repeat("1,", 2990)+"})", "table")
	checkRefusedSource(t, "a=-{"+repeat("1,", 2997)+"1}", impl.CodeLimit, 0)
}

// counted lists the numbers from 1 to n.
func counted(n int, between string) string {
	var words []string
	for i := range n {
		words = append(words, fmt.Sprint(i+1))
	}
	return strings.Join(words, between)
}

func TestExecOfTheLongestLists(t *testing.T) {
	names := func(n int) string { return strings.Join(numbered(n), ", ") }
	for _, frame := range []struct{ src, want string }{
		{"print(@NUMBERS)", "@SHOWN"},
		{"local @NAMES = @NUMBERS print(@NAMES)", "@SHOWN"},
		{"local @NAMES = (function() return @NUMBERS end)() print(@NAMES)", "@SHOWN"},
		{"local @NAMES @NAMES = (function() return @NUMBERS end)() print(@NAMES)", "@SHOWN"},
		{"local function f(@NAMES) print(@NAMES) end f(@NUMBERS)", "@SHOWN"},
		{"local function f(@NAMES) print(@NAMES) end pcall(f, 1)", "1" + strings.Repeat(" nil", 49)},
		{"local a a = @NUMBERS print(a)", "1"},
		{"return @NUMBERS", ""},
	} {
		filled := func(n int) string {
			return strings.NewReplacer("@NAMES", names(n), "@NUMBERS", counted(n, ", ")).Replace(frame.src)
		}
		checkKept(t, filled(impl.MaxArgs), strings.ReplaceAll(frame.want, "@SHOWN", counted(50, " ")), filled(impl.MaxArgs+1))
	}
	// fields are no such list
	checkExec(t, "local t = {"+counted(300, ", ")+"} print(t[1], t[51], t[300], t[301])", "1 51 300 nil")
	// a limit of texts, and of names
	text := strings.Repeat("x", impl.MaxText)
	checkKept(t, "print('"+text+"')", text, "print('"+text+"x')")
	checkKept(t, "local "+text+" print(1)", "1", "local "+text+"x print(1)")
	digits := strings.Repeat("0", impl.MaxDigits-1) + "7"
	checkExec(t, "print("+digits+")", "7")
	checkRefusedSource(t, "print(0"+digits+")", impl.CodeLimit, 6)
}

func TestExecOfProgramLimits(t *testing.T) {
	repeat := strings.Repeat
	checkKept(t, repeat("local a ", 199)+"local b = 1 print(b)", "1", repeat("local a ", 200)+"local b = 1 print(b)")
	checkKept(t, repeat("local a ", 196)+"for i = 1, 2 do print(i) end", "1|2", repeat("local a ", 197)+"for i = 1, 2 do print(i) end")
	checkKept(t, repeat("local a ", 197)+"a, a, a = 1, 2, 3 print(a)", "3", repeat("local a ", 198)+"a, a, a = 1, 2, 3 print(a)")
	// slots of blocks that have ended are free again, and functions have their own
	checkExec(t, repeat("do "+repeat("local a ", 100)+"end ", 6)+repeat("local b ", 100)+"print(b)", "nil")
	checkExec(t, repeat("local a ", 200)+"(function() "+repeat("local b ", 200)+"print(b) end)()", "nil")
	// captures
	captures := func(n int) string {
		src := ""
		for part := range slices.Chunk(numbered(n), 50) {
			src += "local " + strings.Join(part, ", ") + " = " + counted(len(part), ", ") + " "
		}
		return src + "print((function() return " + strings.Join(numbered(n), " + ") + " end)())"
	}
	checkKept(t, captures(impl.MaxUps), fmt.Sprint(2*50*51/2), captures(impl.MaxUps+1))
	// operands: a table and a key wait for what is inside, print for all
	tables := func(n int, inner string) string { return repeat("{", n) + inner + repeat("}", n) }
	checkKept(t, "print("+tables(150, "")+")", "table", "print("+tables(150, "1")+")")
	checkKept(t, "return "+tables(149, "1"), "", "return "+tables(150, "1"))
	// as many functions as fit into a source
	checkExec(t, "print({"+repeat("function()end,", 420)+"})", "table")
}

// checkLastStep runs a source with the budget that it needs, and one step fewer.
func checkLastStep(t *testing.T, src, want string, steps int) {
	t.Helper()
	r := checkExec(t, src, want)
	if r.Steps != steps {
		t.Errorf("%s: %s, want %d steps", cut(src), showReport(r), steps)
	}
	if again := executed(t, src, nil, steps); !sameReport(again, r) {
		t.Errorf("%s: %s, with greater budget %s", cut(src), showReport(again), showReport(r))
	}
	short := executed(t, src, nil, steps-1)
	if short.Code != impl.CodeBudget || short.Steps != steps-1 || len(short.Error) > 0 || !beginsWith(r.Prints, short.Prints) {
		t.Errorf("%s with one step fewer: %s", cut(src), showReport(short))
	}
}

func TestExecOfBudgets(t *testing.T) {
	checkLastStep(t, "", "", 1)
	checkLastStep(t, "print(1)", "1", 4)
	checkLastStep(t, "return print(1)", "1", 3)
	checkLastStep(t, "error('x')", "!x", 3)
	checkLastStep(t, "print(1) print(2) error(3)", "1|2!3", 9)
	checkLastStep(t, "local a = 1 + nil", "!arithmetic", 3)
	// three numbers, three variables, four steps a round, the last test, the return
	checkLastStep(t, "for i = 1, 3 do end", "", 6+4*3+1+1)
	checkLastStep(t, "for i = 1, 24998 do end", "", impl.MaxBudget)
	if r := executed(t, "for i = 1, 24998 do end print(1)", nil, impl.MaxBudget); !sameReport(r, impl.Report{Code: impl.CodeBudget, Steps: impl.MaxBudget}) {
		t.Error(showReport(r))
	}
	for _, src := range []string{"", "print(1)", "error(1)", "while true do end", "return", "local a = nil a()"} {
		if r := executed(t, src, inputsOf("a"), 0); !sameReport(r, refusedWith(impl.CodeBudget, 0)) {
			t.Errorf("%s with no budget: %s", src, showReport(r))
		}
	}
	for src, prints := range map[string]int{
		"while true do end": 0, "print(1) while true do end": 1, "repeat until false": 0, "for i = 1, 0x7fffffffffffffff do end": 0, "local function f() return f() end f()": 0,
		"local function f() f() end print(1) print(2) f()": 2, "print(1) pcall(function() while true do end end) print(2)": 1,
		"local function f() pcall(f) end f()": 0, "local function f() resume(create(f)) end f()": 0, "while true do pcall(error) end": 0,
		"print(1) resume(create(function() print(2) while true do yield() resume(create(print), 3) end end)) while true do end": 2,
	} {
		for _, budget := range []int{100, 1000, impl.MaxBudget} {
			r := executed(t, src, nil, budget)
			if r.Code != impl.CodeBudget || r.Steps != budget || len(r.Prints) != prints || len(r.Error) > 0 || r.At != 0 {
				t.Errorf("%s for %d steps: %s", src, budget, showReport(r))
			}
		}
	}
	// six steps a round, the fifth one prints
	if r := executed(t, "while true do print(1) end", nil, 600+5); r.Code != impl.CodeBudget || len(r.Prints) != 101 {
		t.Error(showReport(r))
	}
}

func TestExecOfInputs(t *testing.T) {
	many := slices.Repeat(inputsOf("line"), impl.MaxInputs)
	src := "local n, line = 0, read() while line do n = n + 1 line = read() end print(n, line)"
	if r := executed(t, src, many, impl.MaxBudget); string(slices.Concat(r.Prints...)) != "1000\tnil" {
		t.Error(showReport(r))
	}
	if r := executed(t, src, append(many, nil), impl.MaxBudget); !sameReport(r, refusedWith(impl.CodeBad, 0)) {
		t.Error(showReport(r))
	}
	long := bytes.Repeat([]byte{'\n'}, impl.MaxText)
	if r := executed(t, "print(read())", [][]byte{long}, 10); len(r.Prints) != 1 || !bytes.Equal(r.Prints[0], long) {
		t.Error(showReport(r))
	}
	if r := executed(t, "print(1)", [][]byte{append(long, 'x')}, 10); !sameReport(r, refusedWith(impl.CodeBad, 0)) {
		t.Error(showReport(r))
	}
	checkExec(t, "print(read(), read(), read())", "a b nil", "a", "b")
	checkExec(t, "print(read() == '', read() == nil, type(read()))", "true true nil", "")
	checkExec(t, "print(type(read()))", "string", "12")
	checkExec(t, "print(read() .. read() + 1)", "!arithmetic", "1", "2")
	checkExec(t, "local a = {read, read} print(a[1](), a[2]())", "x y", "x", "y")
	checkExec(t, "local a, b = read() print(a, b)", "x nil", "x", "y")
	checkExec(t, "print(pcall(read), read())", "true y", "x", "y")
	checkExec(t, "print(1)", "1", "x", "y")
}

func TestExecOfOutputs(t *testing.T) {
	line := strings.Repeat("x", impl.MaxText)
	src := "local s, one = read(), 'y' for i = 1, 19 do print(s) end print(s) "
	check := func(src string, prints, size, code int, fault string) {
		t.Helper()
		r := executed(t, src, inputsOf(line), impl.MaxBudget)
		if r.Code != code || len(r.Prints) != prints || len(slices.Concat(r.Prints...)) != size || string(r.Error) != fault {
			t.Errorf("%s: code %d, %d prints of %d bytes, error %q", cut(src), r.Code, len(r.Prints), len(slices.Concat(r.Prints...)), r.Error)
		}
		checkMeaning(t, src, inputsOf(line), impl.MaxBudget, r)
	}
	check(src, 20, impl.MaxOutput, impl.CodeOK, "")
	check(src+"print() print('')", 22, impl.MaxOutput, impl.CodeOK, "")
	check(src+"print(one)", 20, impl.MaxOutput, impl.CodeError, "output")
	check(src+"print('', '')", 20, impl.MaxOutput, impl.CodeError, "output")
	check(src+"pcall(print, one) print()", 21, impl.MaxOutput, impl.CodeOK, "")
	check(src+"local ok, e = pcall(print, one) error(e .. '!')", 20, impl.MaxOutput, impl.CodeError, "output!")
	check("local s = read() for i = 1, 19 do print(s) end print(read()) print(s) print()", 20, 19*5000+3, impl.CodeError, "output")
	check("local s = read() for i = 1, 10 do print(s, s) end", 9, 9*10001, impl.CodeError, "output")
	// texts that become too long
	checkExec(t, "local s = 'x' for i = 1, 12 do s = s .. s end print(pcall(function() s = s .. s end)) s = s .. 1 print(s == s)", "false|true")
	check("local s = read() local ok, e = pcall(function() return s .. '' end) print(ok, e)", 1, 5005, impl.CodeOK, "")
	check("local s = read() local ok, e = pcall(function() return s .. 1 end) print(ok, e)", 1, len("false\ttoo long"), impl.CodeOK, "")
	check("local s = read() print(1) s = 0 .. s", 1, 1, impl.CodeError, "too long")
}

// What is raised outside of every pcall ends the run, with its string, and what
// was printed before it stands.
func TestExecOfErrorsOutsideOfPcall(t *testing.T) {
	for value, said := range map[string]string{
		"": "nil", "nil": "nil", "false": "false", "true": "true", "0": "0", "-5": "-5", "0x8000000000000000": "-9223372036854775808", "'x'": "x", "''": "", "'a\\n\\xff'": "a\n\xff",
		"{}": "table", "print": "function", "function() end": "function", "create(print)": "coroutine", "1, 2": "1", "'a' .. 1": "a1", "not nil": "true",
	} {
		for before, shown := range map[string]string{"": "", "print('before') print() ": "before|", "print(pcall(error, 1)) ": "false"} {
			for _, frame := range []string{
				"error(@)", "return error(@)", "do error(@) end print(2)", "local function f() error(@) end f() print(2)", "local function f() return error(@) end return f()",
				"for i = 1, 2 do error(@) end", "local a = error(@)", "print(2, error(@))", "local e = function() error(@) end resume(create(pcall), e) e()",
				"local t = {[1] = 2, x = error(@)}", "while error(@) do end", "repeat local a until error(@)", "if nil then elseif error(@) then end", "local x = 1 + (2 + error(@))",
			} {
				if strings.Contains(value, ",") && strings.Contains(frame, "x = error") {
					continue
				}
				checkExec(t, before+strings.ReplaceAll(frame, "@", value), shown+"!"+said)
			}
		}
	}
	for _, one := range [][2]string{
		{"nil()", "call"}, {"x.y.z = 1", "index"}, {"x[1] = 1", "index"}, {"t[nil] = 1", "index"}, {"t.a.b.c()", "index"}, {"t.a()", "call"}, {"t = -t", "arithmetic"}, {"t = 1 + '1'", "arithmetic"},
		{"t = 1 // 0", "zero"}, {"t = 1 % 0", "zero"}, {"t = 'a' .. t", "concatenation"}, {"t = 1 .. nil", "concatenation"}, {"t = 1 < 'a'", "comparison"}, {"t = t >= t", "comparison"},
		{"for i = 1, 2, 0 do end", "for"}, {"for i = '1', 2 do end", "for"}, {"create(1)", "argument"}, {"resume(1)", "argument"}, {"status()", "argument"}, {"yield(1)", "yield"},
		{"t = nil < nil", "comparison"}, {"t = true + 1", "arithmetic"}, {"t = {[nil] = 1}", "index"}, {"x()", "call"}, {"('x')()", "call"}, {"t[1][2] = 3", "index"},
	} {
		stat := strings.Replace(one[0], "nil()", "(nil)()", 1)
		checkExec(t, "local t, x = {} print('before') "+stat+" print('behind')", "before!"+one[1])
		checkExec(t, "local t, x = {} print('before') local ok, e = pcall(function() "+stat+" end) print(ok, e)", "before|false "+one[1])
	}
}
