package tests

import (
	"bytes"
	"fmt"
	"math"
	"slices"
	"testing"

	"loop.example/s02245/impl"
)

// checkBad asks for CodeBad and nothing else.
func checkBad(t *testing.T, what string, p impl.Program, inputs [][]byte, budget int) {
	t.Helper()
	given := copyProgram(p)
	if o := impl.Run(given, inputs, budget); !sameOutcome(o, impl.Outcome{Code: impl.CodeBad}) {
		t.Errorf("%s: %s", what, showOutcome(o))
	}
	if !sameProgram(given, p) {
		t.Errorf("%s: the program was written into", what)
	}
}

func TestRunRefusesWrongArguments(t *testing.T) {
	for _, p := range refusedPrograms(t) {
		for _, budget := range []int{0, 1, impl.MaxBudget} {
			checkBad(t, clip(p), p, nil, budget)
		}
	}
	good := compiled(t, "print(1)")
	for _, budget := range []int{-1, -2, math.MinInt, impl.MaxBudget + 1, math.MaxInt} {
		checkBad(t, fmt.Sprint("budget ", budget), good, nil, budget)
	}
	long := make([]byte, impl.MaxText+1)
	for what, inputs := range map[string][][]byte{
		"1001 inputs": make([][]byte, impl.MaxInputs+1), "2000 inputs": make([][]byte, 2000), "a long input": {long}, "a long input behind": {nil, long},
		"a long one ahead": {long, nil}, "a long last one": append(make([][]byte, 999), long), "a long one too much": append(make([][]byte, 1000), long),
	} {
		for _, budget := range []int{0, 5, impl.MaxBudget, -1} {
			checkBad(t, what, good, inputs, budget)
		}
	}
	for _, inputs := range [][][]byte{nil, {}, {nil}, {long[1:]}, make([][]byte, impl.MaxInputs)} {
		if o := impl.Run(good, inputs, impl.MaxBudget); o.Code != impl.CodeOK {
			t.Errorf("%d inputs: %s", len(inputs), showOutcome(o))
		}
	}
	checkBad(t, "all wrong", impl.Program{}, [][]byte{long}, -1)
}

// checkEveryBudget runs with all budgets up to the end: promise 9.
func checkEveryBudget(t *testing.T, p impl.Program, inputs [][]byte, most int) {
	t.Helper()
	full := ran(t, p, inputs, most)
	var before impl.Outcome
	for budget := range full.Steps + 3 {
		if budget > most {
			break
		}
		o := impl.Run(p, inputs, budget)
		switch {
		case budget >= full.Steps && full.Code != impl.CodeBudget:
			if !sameOutcome(o, full) {
				t.Fatalf("%s\nbudget %d: %s, with %d: %s", clipListed(p), budget, showOutcome(o), most, showOutcome(full))
			}
		case o.Code != impl.CodeBudget || o.Steps != budget || len(o.Error) > 0 || !beginsWith(full.Prints, o.Prints) || o.Frames > full.Frames:
			t.Fatalf("%s\nbudget %d: %s, with %d: %s", clipListed(p), budget, showOutcome(o), most, showOutcome(full))
		}
		if !beginsWith(o.Prints, before.Prints) || len(o.Prints) > len(before.Prints)+1 || o.Frames < before.Frames {
			t.Fatalf("%s\nbudget %d: %s, with one less: %s", clipListed(p), budget, showOutcome(o), showOutcome(before))
		}
		before = o
	}
}

func TestRunOfEveryBudget(t *testing.T) {
	for _, src := range []string{
		"", "print(1)", "return 1", "error('x')", "local a = nil a()", "for i = 1, 5 do print(i) end", "local a = 1 + {}",
		"local function f(n) if n > 0 then f(n - 1) end print(n) end f(4)", "local ok, e = pcall(error, 'a') print(ok, e) error(e)",
		"local co = create(function() for i = 1, 3 do yield(i) end error('end') end) for i = 1, 5 do local ok, v = resume(co) print(ok, v) end",
		"local function loop(n) if n == 0 then return 'done' end return loop(n - 1) end print(loop(10))", "return print(1)", "return error(1)",
	} {
		checkEveryBudget(t, compiled(t, src), nil, 1000)
	}
	checkEveryBudget(t, compiled(t, "while true do print(1) end"), nil, 200)
	checkEveryBudget(t, compiled(t, "while true do end"), nil, 50)
}

// checkSteps asks for the steps of a run, with the last one in the budget and
// one step fewer.
func checkSteps(t *testing.T, src string, steps int) {
	t.Helper()
	p := compiled(t, src)
	if o := ran(t, p, nil, steps); o.Code == impl.CodeBudget || o.Steps != steps {
		t.Errorf("%s: %s, want %d steps", src, showOutcome(o), steps)
	}
	if o := ran(t, p, nil, steps-1); o.Code != impl.CodeBudget || o.Steps != steps-1 || len(o.Error) > 0 {
		t.Errorf("%s: %s, want the budget %d used up", src, showOutcome(o), steps-1)
	}
}

func TestRunOfSteps(t *testing.T) {
	for src, steps := range map[string]int{
		"":                                  1, // return
		"print()":                           3, // builtin, call, return
		"return":                            1,
		"return 1, 2":                       3,
		"return print()":                    2, // builtin, tail: the run ends with it
		"error()":                           2, // builtin, call
		"return error()":                    2,
		"local a":                           3, // nil, new, return
		"local a = nil a()":                 4, // nil, new, get, call
		"if nil then print() end":           3, // nil, jumpfalse, return
		"local f = function() end f()":      6, // func, new, get, call; return, return
		"local f = function() end pcall(f)": 7,
		"local a = pcall(print)":            5,
		"for i = 1, 0 do end":               8, // three constants, three news, fortest, return
		"for i = 1, 3 do end":               20,
		"for i = 1, 24998 do end":           100000,
		"yield()":                           2,
		"resume(create(yield))":             6, // builtin, builtin, builtin, call, call, return
		"local a = create(yield) resume(a)": 8,
		"local f = function() return 1 end local a = f()": 8,
	} {
		checkSteps(t, src, steps)
	}
	endless := compiled(t, "while true do end")
	for _, budget := range []int{0, 1, 2, 99999, impl.MaxBudget} {
		if o := ran(t, endless, nil, budget); o.Code != impl.CodeBudget || o.Steps != budget || o.Frames != 1 || len(o.Prints) > 0 {
			t.Errorf("budget %d: %s", budget, showOutcome(o))
		}
	}
	// one step more than fits the greatest budget
	if o := ran(t, compiled(t, "for i = 1, 24998 do end local a"), nil, impl.MaxBudget); o.Code != impl.CodeBudget || o.Steps != impl.MaxBudget {
		t.Error(showOutcome(o))
	}
	if o := ran(t, bench("jump 0"), nil, 77); o.Code != impl.CodeBudget || o.Steps != 77 {
		t.Error(showOutcome(o))
	}
	if o := ran(t, compiled(t, "print(1)"), nil, 0); o.Code != impl.CodeBudget || o.Steps != 0 || o.Frames != 1 || len(o.Prints) > 0 {
		t.Error(showOutcome(o))
	}
}

// checkFrames asks for the greatest number of frames.
func checkFrames(t *testing.T, src string, frames int) {
	t.Helper()
	if o := ran(t, compiled(t, src), nil, impl.MaxBudget); o.Frames != frames {
		t.Errorf("%s: %s, want %d frames", src, showOutcome(o), frames)
	}
}

func TestRunOfFrames(t *testing.T) {
	for src, frames := range map[string]int{
		"": 1, "print(1)": 1, "error(1)": 1, "return print(1)": 1, "local f = function() end f()": 2, "local f = function() end return f()": 1,
		// a guard is a frame, whatever it guards
		"pcall(print)": 2, "pcall()": 2, "pcall(error)": 2, "return pcall(print)": 1, "return pcall()": 1, "pcall(pcall, print)": 3, "pcall(pcall, pcall)": 4,
		"pcall(pcall, pcall, error)": 4, "pcall(function() end)": 3, "return pcall(function() end)": 2, "pcall(function() return print() end)": 3,
		"pcall(function() pcall(print) end)": 4, "pcall(function() return pcall(print) end)": 3, "pcall(function() return pcall(pcall, print) end)": 4,
		// frames that were taken off do not count with later ones
		"local f = function() end f() f() f()": 2, "local f = function() end pcall(f) f()": 3, "pcall(print) pcall(print) pcall(error)": 2,
		"local f = function() error() end pcall(f) pcall(f) pcall(f)": 3, "local function f(n) if n > 0 then f(n - 1) end end f(5) f(3)": 7,
		"local function f(n) if n == 0 then error() end local x = f(n - 1) end pcall(f, 5) pcall(f, 3)": 8,
		// each coroutine is counted alone
		"resume(create(print))": 1, "resume(create(function() end))": 1, "create(function() local f = function() end f() end)": 1,
		"resume(create(function() local f = function() end f() end))": 2, "resume(create(pcall), print)": 1, "resume(create(pcall), function() end)": 2,
		"local function f(n) if n > 0 then f(n - 1) end end f(3) resume(create(f), 6)": 7, "local function f(n) if n > 0 then f(n - 1) end end f(6) resume(create(f), 3)": 8,
		"local function f(n) if n > 0 then f(n - 1) end yield() end local a, b = create(f), create(f) resume(a, 4) resume(b, 7) f(1)":               8,
		"local function f(n) if n > 0 then resume(create(f), n - 1) end end f(9)":                                                                   2,
		"local f f = function(n) if n > 0 then local x = function() resume(create(f), n - 1) end x() end end f(9)":                                  3,
		"pcall(function() local co = create(function() pcall(yield) end) resume(co) resume(co) end)":                                                3,
		"local co = create(function(n) local function f(n) if n > 0 then f(n - 1) else yield() end end f(n) f(n + 1) end) resume(co, 2) resume(co)": 5,
	} {
		checkFrames(t, src, frames)
	}
	if o := checkHand(t, "!call", "nil; tail 0"); o.Frames != 1 || o.Steps != 2 {
		t.Error(showOutcome(o))
	}
	// as deep as the budget goes: get, call, and then nothing but these
	p := bench("func 1; set 0; get 0; call 0 0; return 0", "0 0 slot0: up 0; call 0 0; return 0")
	if o := ran(t, p, nil, impl.MaxBudget); o.Code != impl.CodeBudget || o.Frames != 1+(impl.MaxBudget-2)/2 {
		t.Error(showOutcome(o))
	}
}

// tailLoops go round by tail calls alone, N times.
var tailLoops = []string{
	"local function f(n) if n == 0 then return 0 end return f(n - 1) end print(f(N))",
	"local function f(n) if n == 0 then return 0 end return f(n - 1) end return f(N)",
	"local function f(n) if n > 0 then return f(n - 1) end end f(N)",
	"local f, g f = function(n, a) if n == 0 then return a end return g(a + 1, n - 1) end g = function(a, n) return f(n, a) end print(f(N, 0))",
	"local function f(n, k) if n == 0 then return k() end return f(n - 1, k) end f(N, function() return print('end') end)",
	"local function f(n) if n == 0 then return 0 end return f(n - 1) end local ok, v = pcall(f, N) print(ok, v)",
	"local function f(n) if n == 0 then error('end') end return f(n - 1) end local ok, v = pcall(f, N) print(ok, v)",
	"local function f(n) if n == 0 then return 0 end return f(n - 1) end local ok, v = resume(create(f), N) print(ok, v)",
	"local function f(n) if n == 0 then return 0 end yield(n) return f(n - 1) end local co = create(f) resume(co, N) while status(co) ~= 'dead' do resume(co) end",
	"local function f(n) while true do local k = n do if k == 0 then return end return f(k - 1) end end end f(N)",
	"local t = {} t.run = function(t, n) if n == 0 then return n end return t.run(t, n - 1) end print(t.run(t, N))",
	"local function f(n) if n == 0 then return end local a, b, c = 1, 2, {n} return f(c[1] - 1, a, b) end f(N)",
}

// Promise 10: the frames are the same however often a loop by tail calls goes
// round, up to the end of the budget.
func TestRunOfTailCalls(t *testing.T) {
	for _, loop := range tailLoops {
		run := func(n int) impl.Outcome {
			src := string(bytes.ReplaceAll([]byte(loop), []byte("N"), fmt.Append(nil, n)))
			return ran(t, compiled(t, src), nil, impl.MaxBudget)
		}
		few := run(2)
		if few.Code != impl.CodeOK || few.Frames > 3 {
			t.Errorf("%s: %s", loop, showOutcome(few))
		}
		for _, n := range []int{3, 10, 100, 1000, 3000} {
			if o := run(n); o.Frames != few.Frames || o.Code != impl.CodeOK || o.Steps <= few.Steps {
				t.Errorf("%s with %d: %s, with 2: %s", loop, n, showOutcome(o), showOutcome(few))
			}
		}
		if o := run(1000000); o.Frames != few.Frames || o.Code != impl.CodeBudget {
			t.Errorf("%s without end: %s, with 2: %s", loop, showOutcome(o), showOutcome(few))
		}
	}
	// what is no tail call needs a frame each time
	for _, loop := range []string{
		"local function f(n) if n == 0 then return 0 end return f(n - 1), nil end f(%d)", "local function f(n) if n == 0 then return 0 end local x = f(n - 1) return x end f(%d)",
		"local function f(n) if n > 0 then f(n - 1) end end f(%d)", "local function f(n) if n == 0 then return end return pcall(f, n - 1) end f(%d)",
	} {
		checkFrames(t, fmt.Sprintf(loop, 5), 7)
		checkFrames(t, fmt.Sprintf(loop, 500), 502)
	}
}

func TestRunSharesNoMemory(t *testing.T) {
	src := "local a = read() print(a) print(a) print('const') print('const') print('', 'x') error('const')"
	p := compiled(t, src)
	inputs := inputsOf("input", "other")
	want := impl.Run(p, inputs, 1000)
	o := impl.Run(p, inputs, 1000)
	if endOf(want) != "input|input|const|const| x!const" {
		t.Fatal(showOutcome(want))
	}
	spoilProgram(p)
	for _, line := range inputs {
		spoil(line)
	}
	if !sameOutcome(o, want) {
		t.Errorf("the answer shares memory with an argument: %s", showOutcome(o))
	}
	for i := range o.Prints {
		o.Prints[i] = append(o.Prints[i], byte('0'+i))
		o.Prints[i][0] = byte('A' + i)
	}
	o.Error = append(o.Error, "more"...)
	o.Error[0] = '!'
	for i, line := range o.Prints {
		old := want.Prints[i]
		if line[0] != byte('A'+i) || line[len(line)-1] != byte('0'+i) || !bytes.Equal(line[1:len(line)-1], old[1:]) {
			t.Errorf("two lists of one answer share memory: %q, was %q", line, old)
		}
	}
	// nothing is kept from one run for the next
	p = compiled(t, src)
	if again := impl.Run(p, inputsOf("input", "other"), 1000); !sameOutcome(again, want) {
		t.Errorf("again: %s", showOutcome(again))
	}
	// answers with room at the end
	all := slices.Concat(want.Prints...)
	spoil(want.Prints[0])
	if !bytes.Equal(slices.Concat(want.Prints[1:]...), all[len(want.Prints[0]):]) {
		t.Errorf("two prints share memory")
	}
}
