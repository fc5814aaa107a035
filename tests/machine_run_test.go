package tests

import (
	"bytes"
	"fmt"
	"math"
	"slices"
	"strings"
	"testing"

	"loop.example/s02245/impl"
)

func sameOutcome(a, b impl.Outcome) bool {
	return a.Code == b.Code && slices.EqualFunc(a.Prints, b.Prints, bytes.Equal) && bytes.Equal(a.Error, b.Error) &&
		a.Steps == b.Steps && a.Frames == b.Frames
}

func showOutcome(o impl.Outcome) string {
	text := fmt.Sprintf("code %d, %d steps, %d frames, error %q, prints %q", o.Code, o.Steps, o.Frames, o.Error, o.Prints)
	return text[:min(len(text), 500)]
}

// ran runs a program and holds the outcome against the model, and the run of
// what Thread answers against promise 7.
func ran(t *testing.T, p impl.Program, inputs [][]byte, budget int) impl.Outcome {
	t.Helper()
	given, lines := copyProgram(p), make([][]byte, len(inputs))
	for i, line := range inputs {
		lines[i] = bytes.Clone(line)
	}
	o := impl.Run(given, lines, budget)
	if !sameProgram(given, p) || !slices.EqualFunc(lines, inputs, bytes.Equal) {
		t.Errorf("%s: an argument was written into", clip(p))
	}
	if want := runByModel(p, inputs, budget); !sameOutcome(o, want) {
		t.Errorf("%s\nbudget %d: %s\nwant %s", clipListed(p), budget, showOutcome(o), showOutcome(want))
	}
	checkThreadedRun(t, p, inputs, budget, o)
	return o
}

func clipListed(p impl.Program) string {
	text := showConsts(p.Consts) + "\n" + listed(p)
	return text[:min(len(text), 3000)]
}

// checkThreadedRun asks for promise 7. Where the budget was used up, the
// threaded program can only have gone on further.
func checkThreadedRun(t *testing.T, p impl.Program, inputs [][]byte, budget int, o impl.Outcome) {
	t.Helper()
	threaded := impl.Run(impl.Thread(p), inputs, budget)
	same := threaded
	same.Steps = o.Steps
	if o.Code != impl.CodeBudget {
		if !sameOutcome(same, o) || threaded.Steps > o.Steps {
			t.Errorf("%s\nbudget %d: %s\nthreaded %s", clipListed(p), budget, showOutcome(o), showOutcome(threaded))
		}
	} else if !beginsWith(threaded.Prints, o.Prints) || threaded.Frames < o.Frames || threaded.Steps > budget {
		t.Errorf("%s\nbudget %d used up: %s\nthreaded %s", clipListed(p), budget, showOutcome(o), showOutcome(threaded))
	}
}

func beginsWith(list, first [][]byte) bool {
	return len(list) >= len(first) && slices.EqualFunc(list[:len(first)], first, bytes.Equal)
}

func compiled(t *testing.T, src string) impl.Program {
	t.Helper()
	p, code := impl.Compile(parsed(t, src))
	if code != impl.CodeOK {
		t.Fatalf("Compile(%.300q): code %d", src, code)
	}
	return p
}

func inputsOf(lines ...string) [][]byte {
	var out [][]byte
	for _, line := range lines {
		out = append(out, []byte(line))
	}
	return out
}

// endOf tells an outcome: prints with | between and spaces for tabs, then ! and
// the error, or ? for a budget that is used up.
func endOf(o impl.Outcome) string {
	text := strings.ReplaceAll(string(bytes.Join(o.Prints, []byte("|"))), "\t", " ")
	switch o.Code {
	case impl.CodeOK:
		return text
	case impl.CodeError:
		return text + "!" + string(o.Error)
	case impl.CodeBudget:
		return text + "?"
	}
	return fmt.Sprint("code ", o.Code)
}

func cut(s string) string {
	if len(s) > 400 {
		return s[:400] + ".."
	}
	return s
}

func checkRun(t *testing.T, src, want string, inputs ...string) impl.Outcome {
	t.Helper()
	o := ran(t, compiled(t, src), inputsOf(inputs...), impl.MaxBudget)
	if got := endOf(o); got != want {
		t.Errorf("%s\nruns to %s\nwant    %s", cut(src), cut(got), cut(want))
	}
	return o
}

// bench is a program of functions as they are listed, with some constants. Each
// may have ahead of a colon its Params, Slots and captures; otherwise it has six
// slots.
func bench(functions ...string) impl.Program {
	text := func(s string) impl.Const { return impl.Const{IsText: true, Text: []byte(s)} }
	p := impl.Program{Consts: []impl.Const{
		{N: 5}, text("x"), {N: 0}, {N: -7}, {N: 2}, {N: math.MaxInt}, {N: math.MinInt}, text(""), text("abc"), text("5"), {N: 1}, {N: -1},
	}}
	for _, one := range functions {
		f := impl.Proto{Slots: 6}
		head, code, found := strings.Cut(one, ":")
		if !found {
			code = one
		} else {
			words := strings.Fields(head)
			fmt.Sscan(words[0]+" "+words[1], &f.Params, &f.Slots)
			for _, word := range words[2:] {
				c := impl.Capture{Up: strings.HasPrefix(word, "up")}
				fmt.Sscan(strings.TrimLeft(word, "uplsot"), &c.Index)
				f.Captures = append(f.Captures, c)
			}
		}
		f.Code = assembled(code)
		p.Protos = append(p.Protos, f)
	}
	return p
}

// checkHand runs functions as they are listed.
func checkHand(t *testing.T, want string, functions ...string) impl.Outcome {
	t.Helper()
	p := bench(functions...)
	if !impl.Check(p) {
		t.Fatalf("%q is not sound", functions)
	}
	o := ran(t, p, nil, impl.MaxBudget)
	if got := endOf(o); got != want {
		t.Errorf("%q\nruns to %s\nwant    %s", functions, cut(got), cut(want))
	}
	return o
}

// sample is code that leaves a value of some kind.
type sample struct{ kind, said, code string }

func samples() []sample {
	return []sample{
		{"nil", "nil", "nil"}, {"boolean", "true", "true"}, {"boolean", "false", "false"},
		{"number", "5", "const 0"}, {"number", "0", "const 2"}, {"number", "-7", "const 3"},
		{"string", "x", "const 1"}, {"string", "", "const 7"}, {"string", "5", "const 9"},
		{"table", "table", "table"}, {"function", "function", "func 1"}, {"function", "function", "builtin 2"},
		{"coroutine", "coroutine", "builtin 6; builtin 3; call 1 1"},
	}
}

func (s sample) isFalse() bool { return s.said == "nil" || s.said == "false" }

func TestRunLeavesEachValue(t *testing.T) {
	for _, s := range samples() {
		checkHand(t, s.said, "builtin 0; "+s.code+"; call 1 0; return 0", "return 0")
		checkHand(t, s.kind, "builtin 0; builtin 3; "+s.code+"; call 1 1; call 1 0; return 0", "return 0")
		checkHand(t, s.said, "builtin 0; builtin 2; "+s.code+"; call 1 1; call 1 0; return 0", "return 0")
		checkHand(t, "string", "builtin 0; builtin 3; builtin 2; "+s.code+"; call 1 1; call 1 1; call 1 0; return 0", "return 0")
		checkHand(t, "!"+s.said, "builtin 5; "+s.code+"; call 1 0; return 0", "return 0")
		checkHand(t, fmt.Sprint(s.isFalse()), "builtin 0; "+s.code+"; not; call 1 0; return 0", "return 0")
	}
	for number := range 10 {
		checkHand(t, "function", fmt.Sprintf("builtin 0; builtin %d; call 1 0; return 0", number))
	}
	checkHand(t, "9223372036854775807 -9223372036854775808", "builtin 0; const 5; const 6; call 2 0; return 0")
	checkHand(t, "", "return 0")
	checkHand(t, "", "nil; nil; return 1")
}

// wantedOf is what 6.2 says of an operation, for two samples.
func wantedOf(op int, i, k int) string {
	x, y := samples()[i], samples()[k]
	number := func(s sample) int { n := 0; fmt.Sscan(s.said, &n); return n }
	numbers, texts := x.kind == "number" && y.kind == "number", x.kind == "string" && y.kind == "string"
	joins := func(s sample) bool { return s.kind == "number" || s.kind == "string" }
	order := strings.Compare(x.said, y.said)
	if numbers {
		order = number(x) - number(y)
	}
	switch op {
	case impl.OpEq, impl.OpNe:
		// samples are all different, and new things are made for each operand
		made := x.code == "func 1" || x.kind == "table" || x.kind == "coroutine"
		return fmt.Sprint((i == k && !made) == (op == impl.OpEq))
	case impl.OpCat:
		if joins(x) && joins(y) {
			return x.said + y.said
		}
		return "!concatenation"
	case impl.OpLt, impl.OpLe, impl.OpGt, impl.OpGe:
		if !numbers && !texts {
			return "!comparison"
		}
		return fmt.Sprint(op == impl.OpLt && order < 0 || op == impl.OpLe && order <= 0 || op == impl.OpGt && order > 0 || op == impl.OpGe && order >= 0)
	}
	if !numbers {
		return "!arithmetic"
	}
	n, code := impl.Arith(op, number(x), number(y))
	if code == impl.CodeZero {
		return "!zero"
	}
	return fmt.Sprint(n)
}

func TestRunOfEveryOperation(t *testing.T) {
	for op := range 12 {
		for i, x := range samples() {
			for k, y := range samples() {
				code := fmt.Sprintf("builtin 0; %s; %s; bin %d; call 1 0; return 0", x.code, y.code, op)
				checkHand(t, wantedOf(op, i, k), code, "return 0")
			}
		}
	}
	for _, one := range [][2]string{
		{"const 5; const 10; bin 0", "-9223372036854775808"}, {"const 6; const 10; bin 1", "9223372036854775807"},
		{"const 5; const 4; bin 2", "-2"}, {"const 3; const 4; bin 3", "-4"}, {"const 3; const 4; bin 4", "1"},
		{"const 6; const 11; bin 3", "-9223372036854775808"}, {"const 6; const 11; bin 4", "0"},
		{"const 6; const 5; bin 8", "true"}, {"const 5; const 6; bin 8", "false"}, {"const 6; const 6; bin 9", "true"},
		{"const 6; neg", "-9223372036854775808"}, {"const 5; neg", "-9223372036854775807"}, {"const 3; neg", "7"}, {"const 2; neg", "0"},
		{"const 6; const 6; bin 5", "-9223372036854775808-9223372036854775808"},
	} {
		checkHand(t, one[1], "builtin 0; "+one[0]+"; call 1 0; return 0")
	}
}

func TestRunNegatesNumbersAlone(t *testing.T) {
	for _, s := range samples() {
		want := "!arithmetic"
		if s.kind == "number" {
			want = strings.TrimPrefix("-"+s.said, "--")
			if s.said == "0" {
				want = "0"
			}
		}
		checkHand(t, want, "builtin 0; "+s.code+"; neg; call 1 0; return 0", "return 0")
	}
}

// Texts are ordered by their bytes, whatever these stand for.
func TestRunOrdersTexts(t *testing.T) {
	ascending := []string{"", "\x00", "\x00\x00", "\x01", "A", "B", "a", "a\x00", "aa", "ab", "b", "\x7f", "\x80", "\xc3\xa4", "\xff", "\xff\x00"}
	src := "local a = read() local b = read() print(a < b, a <= b, a > b, a >= b, a == b, a ~= b)"
	for i, a := range ascending {
		for k, b := range ascending {
			checkRun(t, src, fmt.Sprint(i < k, i <= k, i > k, i >= k, i == k, i != k), a, b)
		}
	}
}

func TestRunOfJumps(t *testing.T) {
	for _, s := range samples() {
		skipped := s.isFalse()
		// prints 5, and x if it goes on
		code := s.code + "; jumpfalse %d; builtin 0; const 1; call 1 0; builtin 0; const 0; call 1 0; return 0"
		want := map[bool]string{true: "5", false: "x|5"}[skipped]
		checkHand(t, want, fmt.Sprintf(code, len(assembled(code))-4), "return 0")
		// the value, or 5 where it goes on
		for op, jumps := range map[string]bool{"and": skipped, "or": !skipped} {
			code := "builtin 0; " + s.code + "; %s %d; const 0; call 1 0; return 0"
			want := "5"
			if jumps {
				want = s.said
			}
			at := len(assembled(strings.ReplaceAll(code, "%s %d", "nil"))) - 2
			checkHand(t, want, fmt.Sprintf(code, op, at), "return 0")
		}
	}
	checkHand(t, "x|5", "jump 5; builtin 0; const 0; call 1 0; return 0; builtin 0; const 1; call 1 0; jump 1")
}

// The variables of a slot: InsSet writes into the one that is there, InsNew
// leaves it to those that captured it.
func TestRunOfVariables(t *testing.T) {
	checkHand(t, "nil nil", "builtin 0; get 0; get 5; call 2 0; return 0")
	checkHand(t, "5 x", "const 0; set 0; const 1; set 5; builtin 0; get 0; get 5; call 2 0; return 0")
	checkHand(t, "5", "const 0; new 0; builtin 0; get 0; call 1 0; return 0")
	show := "0 0 slot0: builtin 0; up 0; call 1 0; return 0"
	checkHand(t, "5", "const 0; new 0; func 1; const 0; set 0; call 0 0; return 0", show)
	checkHand(t, "x", "const 0; new 0; func 1; const 1; set 0; call 0 0; return 0", show)
	checkHand(t, "5", "const 0; new 0; func 1; const 1; new 0; call 0 0; return 0", show)
	checkHand(t, "x", "func 1; const 1; set 0; call 0 0; return 0", show)
	checkHand(t, "nil", "func 1; const 1; new 0; call 0 0; return 0", show)
	// two functions with the same variable, one of which writes
	set := "0 0 slot0: const 8; setup 0; return 0"
	checkHand(t, "abc|abc", "const 0; new 0; func 2; call 0 0; func 1; call 0 0; builtin 0; get 0; call 1 0; return 0", show, set)
	checkHand(t, "5|x", "const 0; new 0; func 1; func 2; const 1; new 0; call 0 0; pop; func 1; builtin 0; const 0; call 1 0; call 0 0; return 0", show, set)
	// through a function in between, up to a parameter
	checkHand(t, "x 5 nil", "func 1; const 1; const 0; call 2 1; call 0 0; return 0",
		"3 4: func 2; return 1", "0 0 slot2 slot1 slot0: func 3; tail 0", "0 0 up2 up1 up0: builtin 0; up 0; up 1; up 2; call 3 0; return 0")
	// each call has variables of its own
	checkHand(t, "1|2|1", "func 1; call 0 1; set 0; func 1; call 0 1; set 1; get 0; call 0 0; get 0; call 0 0; get 1; call 0 0; return 0",
		"0 1: const 2; new 0; func 2; return 1", "0 0 slot0: up 0; const 10; bin 0; setup 0; builtin 0; up 0; call 1 0; return 0")
}

func TestRunOfCapturesInPrograms(t *testing.T) {
	checkRun(t, "local n = 0 local function up() n = n + 1 return n end local function get() return n end up() up() print(get(), n) n = 7 print(up(), get())", "2 2|8 8")
	checkRun(t, "local list = {} for i = 1, 3 do list[i] = function() i = i * 10 return i end end print(list[1](), list[1](), list[3](), list[2]())", "10 100 30 20")
	checkRun(t, "local f, g local i = 0 while i < 2 do local k = i if i == 0 then f = function() k = k + 1 return k end else g = function() return k end end i = i + 1 end print(f(), f(), g())", "1 2 1")
	checkRun(t, "local f do local a = 1 f = function() a = a + 1 return a end end do local b = 50 print(f(), b) end print(f())", "2 50|3")
	checkRun(t, "local function pair(x) return function() return x end, function(y) x = y end end local get, set = pair(1) local get2 = pair(2) set(9) print(get(), get2())", "9 2")
	checkRun(t, "local function f(a) local g = function() return a end a = a + 1 return g end print(f(1)(), f(5)())", "2 6")
	checkRun(t, "local function f(n) if n == 0 then return 0 end local r = f(n - 1) return r + n end local g = f f = nil print(pcall(g, 0) , pcall(g, 1))", "true false")
}

func TestRunOfLoopTests(t *testing.T) {
	for slot := range 3 {
		for _, s := range samples() {
			set := func(k int) string {
				if k == slot {
					return fmt.Sprintf("%s; new %d; ", s.code, k+2)
				}
				return fmt.Sprintf("const 10; new %d; ", k+2)
			}
			before := set(0) + set(1) + set(2)
			want := "!for"
			if s.kind == "number" && (slot != 2 || s.said != "0") {
				want = "on"
			}
			at := len(assembled(before + "nil"))
			o := checkAny(t, fmt.Sprintf("%sfortest 2 %d; return 0", before, at), "return 0")
			if (endOf(o) == "!for") != (want == "!for") {
				t.Errorf("slot %d, %s: %s", slot, s.said, endOf(o))
			}
			// the bound is not asked for
			next := "on"
			if s.kind != "number" && slot != 1 {
				next = "!for"
			}
			o = checkAny(t, fmt.Sprintf("%sfornext 2 %d; return 0", before, at), "return 0")
			if (endOf(o) == "!for") != (next == "!for") {
				t.Errorf("fornext, slot %d, %s: %s", slot, s.said, endOf(o))
			}
		}
	}
}

// checkAny runs functions that need only agree with the model.
func checkAny(t *testing.T, functions ...string) impl.Outcome {
	t.Helper()
	p := bench(functions...)
	if !impl.Check(p) {
		t.Fatalf("%q is not sound", functions)
	}
	return ran(t, p, nil, impl.MaxBudget)
}

// Every i, n, d about 0 and about the greatest and the least number.
func TestRunOfLoopNumbers(t *testing.T) {
	numbers := []int{0, 1, -1, 2, -2, math.MaxInt, math.MaxInt - 1, math.MinInt, math.MinInt + 1}
	for _, i := range numbers {
		for _, n := range numbers {
			for _, d := range numbers {
				p := bench("const 0; new 0; const 1; new 1; const 2; new 2; fortest 0 11; builtin 0; const 3; call 1 0; return 0; return 0")
				p.Consts = []impl.Const{{N: i}, {N: n}, {N: d}, {IsText: true, Text: []byte("in")}}
				want := "in"
				if d == 0 {
					want = "!for"
				} else if d > 0 && i > n || d < 0 && i < n {
					want = ""
				}
				if got := endOf(ran(t, p, nil, 100)); got != want {
					t.Errorf("fortest %d %d %d: %s, want %s", i, n, d, got, want)
				}
				p.Protos[0].Code = assembled("const 0; new 0; const 2; new 2; fornext 0 7; const 3; set 1; builtin 0; get 0; get 1; call 2 0; return 0")
				sum := i + d
				want = fmt.Sprint(sum, " nil")
				if d > 0 && sum < i || d < 0 && sum > i {
					want = fmt.Sprint(i, " in")
				}
				if got := endOf(ran(t, p, nil, 100)); got != want {
					t.Errorf("fornext %d %d: %s, want %s", i, d, got, want)
				}
			}
		}
	}
	// it writes into the variable, so a function that captured it sees it
	checkHand(t, "1|1", "const 2; new 0; const 10; new 2; func 1; fornext 0 6; call 0 0; builtin 0; get 0; call 1 0; return 0", "0 0 slot0: builtin 0; up 0; call 1 0; return 0")
}

func TestRunOfLoops(t *testing.T) {
	for _, one := range [][2]string{
		{"1, 3", "1|2|3"}, {"3, 1", ""}, {"3, 1, -1", "3|2|1"}, {"1, 3, -1", ""}, {"1, 1", "1"}, {"1, 1, -1", "1"}, {"1, 10, 4", "1|5|9"}, {"10, 1, -4", "10|6|2"},
		{"1, 3, 0", "!for"}, {"-1, 1", "-1|0|1"}, {"0x7ffffffffffffffe, 0x7fffffffffffffff", "9223372036854775806|9223372036854775807"},
		{"0x7fffffffffffffff, 0x7fffffffffffffff", "9223372036854775807"}, {"0x8000000000000001, 0x8000000000000000, -1", "-9223372036854775807|-9223372036854775808"},
		{"0x8000000000000000, 0x8000000000000000, -1", "-9223372036854775808"}, {"0x7ffffffffffffff0, 0x7fffffffffffffff, 10", "9223372036854775792|9223372036854775802"},
		{"0x8000000000000000, 0x7fffffffffffffff, 0x7fffffffffffffff", "-9223372036854775808|-1|9223372036854775806"},
		{"0x7fffffffffffffff, 0x8000000000000000, 0x8000000000000000", "9223372036854775807|-1"},
		{"nil, 1", "!for"}, {"1, nil", "!for"}, {"1, 2, nil", "!for"}, {"'1', 2", "!for"}, {"1, '2'", "!for"}, {"1, 2, '1'", "!for"}, {"{}, 1", "!for"}, {"1, true", "!for"},
	} {
		checkRun(t, "for i = "+one[0]+" do print(i) end", one[1])
	}
	// writing into the variable of the block changes nothing
	checkRun(t, "for i = 1, 3 do print(i) i = i * 5 print(i) end", "1|5|2|10|3|15")
	checkRun(t, "for i = 1, 3 do for k = i, 1, -1 do if k == 2 then break end print(i, k) end end", "1 1|3 3")
}
