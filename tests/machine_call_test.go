package tests

import (
	"fmt"
	"slices"
	"strings"
	"testing"

	"loop.example/s02245/impl"
)

// Keys of every kind; each is stored, asked for, stored anew, and taken back.
func TestRunOfTables(t *testing.T) {
	for _, s := range samples() {
		// slot 0 the key, slot 1 the table
		begin := s.code + "; new 0; table; new 1; "
		store := "get 1; get 0; %s; store; "
		ask := "builtin 0; get 1; get 0; index; call 1 0; "
		if s.said == "nil" {
			checkHand(t, "nil", begin+ask+"return 0", "return 0")
			checkHand(t, "!index", begin+fmt.Sprintf(store, "const 0")+ask+"return 0", "return 0")
			continue
		}
		code := begin + ask
		for _, v := range []string{"const 0", "const 1", "nil", "false", "nil", "nil", "const 4"} {
			code += fmt.Sprintf(store, v) + ask
		}
		checkHand(t, "nil|5|x|nil|false|nil|nil|2", code+"return 0", "return 0")
	}
	// all keys in one table, asked for by equal ones
	src := `local t, f, g, co, co2 = {}, function() end, function() end, create(print), create(print)
local list = {true, false, 1, 0, -1, '1', '', 'true', {}, {}, f, g, print, read, co, co2, 0x7fffffffffffffff, 0x8000000000000000}
for i = 1, 18 do t[list[i]] = i end
for i = 1, 18 do if t[list[i]] ~= i then print(i, t[list[i]]) end end
print(t[not nil], t[1 == 2], t[0 + 1], t['tr' .. 'ue'], t[{}], t[function() end], t[print], t[create(print)], t[nil], t['print'], t['table'])`
	checkRun(t, src, "1 2 3 8 nil nil 13 nil nil nil nil")
	// a table is one thing, however it is come to
	checkRun(t, "local a = {} local b = a a.x = 1 b.x = 2 local c = {a} c[1].x = c[1].x + 1 print(a.x, b.x, a == b, a == c[1], c == {a})", "3 3 true true false")
	checkRun(t, "local t = {} t[t] = t print(t[t][t] == t) local u = {} t[u] = 1 print(t[u], t[{}])", "true|1 nil")
	checkRun(t, "local t = {1, 2, x = 3, [1] = 'one', ['x'] = 'ex', y = nil} print(t[1], t[2], t.x, t.y, t[3])", "one 2 ex nil nil")
	checkRun(t, "local t = {nil, 2} t[1] = nil t[2] = nil print(t[1], t[2])", "nil nil")
}

func TestRunOfWhatIsNoTable(t *testing.T) {
	for _, s := range samples() {
		for _, key := range samples() {
			isTable, isNil := s.kind == "table", key.kind == "nil"
			want := "!index"
			if isTable {
				want = "nil"
			}
			checkHand(t, want, "builtin 0; "+s.code+"; "+key.code+"; index; call 1 0; return 0", "return 0")
			want = "!index"
			if isTable && !isNil {
				want = "5"
			}
			checkHand(t, want, s.code+"; "+key.code+"; nil; store; builtin 0; const 0; call 1 0; return 0", "return 0")
			if isTable && !isNil {
				want = "table"
			}
			checkHand(t, want, "builtin 0; "+s.code+"; "+key.code+"; const 1; field; call 1 0; return 0", "return 0")
		}
	}
	// the field is stored, and the table left
	checkHand(t, "x", "builtin 0; table; const 0; const 1; field; const 0; index; call 1 0; return 0")
	checkHand(t, "x nil", "builtin 0; table; const 0; nil; field; const 1; const 1; field; new 0; get 0; const 1; index; get 0; const 0; index; call 2 0; return 0")
}

// nilsBehind is a list of words and as many nils as are missing to n, or its
// first n words.
func nilsBehind(words []string, n int) []string {
	words = slices.Clone(words)
	for len(words) < n {
		words = append(words, "nil")
	}
	return words[:n]
}

// checkWanted has code that calls something with %d results wanted, and asks
// for what it has with every number up to 5. A word ahead of the results shows
// that not one operand more is left.
func checkWanted(t *testing.T, results []string, code string, functions ...string) {
	t.Helper()
	for wanted := range 6 {
		first := fmt.Sprintf("builtin 0; const 8; "+code+"; call %d 0; return 0", wanted, wanted+1)
		want := strings.Join(append([]string{"abc"}, nilsBehind(results, wanted)...), " ")
		checkHand(t, want, append([]string{first}, functions...)...)
	}
}

// returning is a function that answers n of its numbers.
func returning(n int) string {
	return "2 2: " + strings.Join(append([]string{"const 0", "const 1", "const 4"}[:n], fmt.Sprintf("return %d", n)), "; ")
}

func TestRunGivesAsManyAsAreWanted(t *testing.T) {
	all := []string{"5", "x", "2"}
	for n := range 4 {
		f := returning(n)
		checkWanted(t, all[:n], "func 1; call 0 %d", f)
		first := nilsBehind(all[:n], 1)[0]
		ok := []string{"true", first}
		// through guards, one or two or three
		checkWanted(t, ok, "builtin 4; func 1; call 1 %d", f)
		checkWanted(t, []string{"true", "true"}, "builtin 4; builtin 4; func 1; call 2 %d", f)
		checkWanted(t, []string{"true", "true"}, "builtin 4; builtin 4; builtin 4; func 1; call 3 %d", f)
		// through resume
		checkWanted(t, ok, "builtin 7; builtin 6; func 1; call 1 1; call 1 %d", f)
		checkWanted(t, []string{"true", "true"}, "builtin 4; builtin 7; builtin 6; func 1; call 1 1; call 2 %d", f)
		// through tail calls, of functions and of both
		checkWanted(t, all[:n], "func 2; call 0 %d", f, "func 1; tail 0")
		checkWanted(t, all[:n], "func 3; call 0 %d", f, "func 1; tail 0", "nil; func 2; tail 0")
		checkWanted(t, ok, "func 2; call 0 %d", f, "builtin 4; func 1; tail 1")
		checkWanted(t, ok, "func 2; call 0 %d", f, "builtin 7; builtin 6; func 1; call 1 1; tail 1")
		checkWanted(t, ok, "builtin 4; func 2; call 1 %d", f, "func 1; tail 0")
	}
	for _, f := range []string{"builtin 5; const 1; call 1 3; return 3", "builtin 5; const 1; tail 1", "const 1; nil; nil; builtin 5; const 1; const 0; call 2 0; return 0"} {
		bad := []string{"false", "x"}
		checkWanted(t, bad, "builtin 4; func 1; call 1 %d", f)
		checkWanted(t, []string{"true", "false"}, "builtin 4; builtin 4; func 1; call 2 %d", f)
		checkWanted(t, bad, "builtin 7; builtin 6; func 1; call 1 1; call 1 %d", f)
		checkWanted(t, bad, "func 2; call 0 %d", f, "builtin 4; func 1; tail 1")
		checkWanted(t, bad, "func 2; call 0 %d", f, "builtin 7; builtin 6; func 1; call 1 1; tail 1")
		checkWanted(t, []string{"false"}, "func 2; call 0 %d", f, "builtin 4; func 1; call 1 1; return 1")
	}
}

func TestRunOfBuiltinsGivesAsManyAsAreWanted(t *testing.T) {
	for _, one := range []struct{ code, results string }{
		{"builtin 1; call 0 %d", "nil"}, {"builtin 1; nil; nil; call 2 %d", "nil"},
		{"builtin 2; const 0; call 1 %d", "5"}, {"builtin 2; call 0 %d", "nil"}, {"builtin 2; const 0; const 1; call 2 %d", "5"},
		{"builtin 3; const 0; call 1 %d", "number"}, {"builtin 3; call 0 %d", "nil"}, {"builtin 3; const 1; const 0; call 2 %d", "string"},
		{"builtin 4; call 0 %d", "false call"}, {"builtin 4; nil; call 1 %d", "false call"}, {"builtin 4; builtin 5; call 1 %d", "false nil"},
		{"builtin 4; builtin 5; const 0; const 1; call 3 %d", "false 5"}, {"builtin 4; builtin 2; call 1 %d", "true nil"}, {"builtin 4; builtin 2; const 0; const 1; call 3 %d", "true 5"},
		{"builtin 6; builtin 0; call 1 %d", "coroutine"}, {"builtin 6; builtin 0; const 0; call 2 %d", "coroutine"},
		{"builtin 7; builtin 6; builtin 2; call 1 1; call 1 %d", "true nil"}, {"builtin 7; builtin 6; builtin 2; call 1 1; const 0; call 2 %d", "true 5"},
		{"builtin 7; builtin 6; builtin 2; call 1 1; const 0; const 1; call 3 %d", "true 5"}, {"builtin 7; builtin 6; builtin 5; call 1 1; const 0; call 2 %d", "false 5"},
		{"builtin 7; builtin 6; builtin 8; call 1 1; const 0; const 1; call 3 %d", "true 5"}, {"builtin 7; builtin 6; builtin 8; call 1 1; call 1 %d", "true nil"},
		{"builtin 9; builtin 6; builtin 0; call 1 1; call 1 %d", "suspended"}, {"builtin 9; builtin 6; builtin 0; call 1 1; const 0; call 2 %d", "suspended"},
	} {
		checkWanted(t, strings.Fields(one.results), one.code)
		tail := strings.ReplaceAll(strings.Replace(one.code, "; call", "; CALL", strings.Count(one.code, "; call")-1), "; call", "; tail")
		tail = strings.ReplaceAll(strings.TrimSuffix(tail, " %d"), "CALL", "call")
		checkWanted(t, strings.Fields(one.results), "func 1; call 0 %d", tail)
	}
	// one that is dead
	for wanted, want := range []string{"", "false", "false cannot resume", "false cannot resume nil"} {
		code := fmt.Sprintf("builtin 6; builtin 2; call 1 1; new 0; builtin 7; get 0; call 1 0; builtin 0; builtin 7; get 0; call 1 %d; call %d 0; return 0", wanted, wanted)
		checkHand(t, want, code)
	}
	// print has no results, and prints meanwhile
	for wanted := range 4 {
		want := strings.TrimRight("5 x|"+strings.Join(nilsBehind(nil, wanted), " "), " ")
		checkHand(t, want, fmt.Sprintf("builtin 0; builtin 0; const 0; const 1; call 2 %d; call %d 0; return 0", wanted, wanted))
		checkHand(t, want, fmt.Sprintf("builtin 0; func 1; call 0 %d; call %d 0; return 0", wanted, wanted), "builtin 0; const 0; const 1; tail 2")
	}
	// what a yield gives where the coroutine runs on
	for wanted := range 4 {
		f := fmt.Sprintf("builtin 0; const 8; builtin 8; const 0; const 1; call 2 %d; call %d 0; return 0", wanted, wanted+1)
		want := strings.Join(append([]string{"abc"}, nilsBehind([]string{"x"}, wanted)...), " ")
		checkHand(t, want, "builtin 6; func 1; call 1 1; new 0; builtin 7; get 0; call 1 0; builtin 7; get 0; const 1; const 4; call 3 0; return 0", f)
		want = strings.Join(append([]string{"abc"}, nilsBehind([]string{"nil"}, wanted)...), " ")
		checkHand(t, want, "builtin 6; func 1; call 1 1; new 0; builtin 7; get 0; call 1 0; builtin 7; get 0; call 1 0; return 0", f)
	}
}

func TestRunOfManyArgumentsAndResults(t *testing.T) {
	for given := range 5 {
		for params := range 5 {
			words := []string{"5", "x", "0", "-7", "2"}
			pushes := []string{"const 0; ", "const 1; ", "const 2; ", "const 3; ", "const 4; "}
			f := fmt.Sprintf("%d %d: builtin 0; get 0; get 1; get 2; get 3; get 4; call 5 0; return 0", params, 5)
			kept := nilsBehind(words[:min(given, params)], 5)
			code := strings.Join(pushes[:given], "")
			want := strings.Join(kept, " ")
			checkHand(t, want, "func 1; "+code+fmt.Sprintf("call %d 0; return 0", given), f)
			checkHand(t, want, "func 1; "+code+fmt.Sprintf("tail %d", given), f)
			checkHand(t, want, "builtin 4; func 1; "+code+fmt.Sprintf("call %d 0; return 0", given+1), f)
		}
	}
	// MaxArgs of all
	many := strings.Repeat("const 0; ", 49) + "const 1; "
	f := "50 50: builtin 0; get 0; get 48; get 49; call 3 0; " + many + "return 50"
	checkHand(t, "5 5 x|5 x", "func 1; "+many+"call 50 50; new 0; new 1; builtin 0; get 1; get 0; call 2 0; return 0", f)
	checkHand(t, "5 5 x", "func 1; "+many+"tail 50", f)
	all := strings.Repeat("5 ", 49) + "x"
	checkHand(t, all, "builtin 0; "+many+"call 50 0; return 0")
	checkHand(t, all, "builtin 0; "+many+"tail 50")
	nils := strings.TrimSuffix(strings.Repeat("nil ", 50), " ")
	checkHand(t, "|"+nils, "builtin 0; builtin 0; call 0 50; call 50 0; return 0")
	checkHand(t, "true nil"+strings.Repeat(" nil", 48), "builtin 0; builtin 4; func 1; call 1 50; call 50 0; return 0", "return 0")
	// a function with all slots as parameters
	checkHand(t, "5 nil", "func 1; const 0; call 1 0; return 0", "200 200: builtin 0; get 0; get 199; call 2 0; return 0")
}

func TestRunCallsFunctionsAlone(t *testing.T) {
	for _, s := range samples() {
		want := "!call"
		if s.kind == "function" {
			want = ""
		}
		checkHand(t, want, s.code+"; call 0 0; return 0", "return 0")
		checkHand(t, want, s.code+"; const 0; const 1; call 2 3; return 0", "return 0")
		checkHand(t, want, s.code+"; tail 0", "return 0")
		checkHand(t, want, s.code+"; nil; nil; tail 2", "return 0")
		told := "false call"
		if s.kind == "function" {
			told = "true nil"
		}
		checkHand(t, told, "builtin 0; builtin 4; "+s.code+"; call 1 2; call 2 0; return 0", "return 0")
		// in a function that is tail called within a guard
		checkHand(t, told, "builtin 0; builtin 4; func 2; call 1 2; call 2 0; return 0", "return 0", s.code+"; tail 0")
	}
}

// Operands below a call stay as they are, whatever comes back.
func TestRunKeepsOperandsBelow(t *testing.T) {
	checkRun(t, "local function two() return 1, 2 end print('a', two(), 'b', two(), 'c')", "a 1 b 1 c")
	checkRun(t, "print('a', pcall(error, 1), 'b', pcall(print), 'c')", "|a false b true c")
	checkRun(t, "local function bad() local x = 1 + {} end print(1 + 2 * (pcall(bad) and 1 or 10), 'end')", "21 end")
	checkRun(t, "local co = create(function(a) while true do a = a + (yield(a) or 0) end end) local function step(n) local ok, v = resume(co, n) return v end print(step(1), 1 + step(2) * 10, step(3), 'z')", "1 31 6 z")
	checkHand(t, "5 x abc", "builtin 0; const 0; const 1; builtin 4; func 1; call 1 0; const 8; call 3 0; return 0", "const 0; const 1; const 4; nil; call 0 5; return 0")
}

// raisers is code of functions that raise, and what they raise.
func raisers() map[string]string {
	return map[string]string{
		"nil; call 0 0; return 0": "call", "nil; tail 0": "call", "nil; nil; index; return 1": "index", "table; nil; nil; store; return 0": "index",
		"nil; nil; nil; field; return 1": "index", "nil; nil; bin 0; return 1": "arithmetic", "nil; neg; return 1": "arithmetic",
		"const 0; const 2; bin 3; return 1": "zero", "const 0; const 2; bin 4; return 1": "zero", "nil; nil; bin 5; return 1": "concatenation",
		"nil; nil; bin 8; return 1": "comparison", "fortest 0 0; return 0": "for", "fornext 0 0; return 0": "for",
		"builtin 6; call 0 0; return 0": "argument", "builtin 7; call 0 0; return 0": "argument", "builtin 9; call 0 0; return 0": "argument",
		"builtin 6; tail 0": "argument", "builtin 7; nil; tail 1": "argument", "builtin 9; nil; tail 1": "argument",
		"builtin 5; const 0; call 1 0; return 0": "5", "builtin 5; const 0; tail 1": "5", "builtin 5; tail 0": "nil", "builtin 5; call 0 0; return 0": "nil",
	}
}

// Each raise with no guard, with one, with several, in a coroutine and under
// frames that are taken off.
func TestRunOfRaises(t *testing.T) {
	for f, raised := range raisers() {
		checkHand(t, "!"+raised, "func 1; call 0 0; return 0", f)
		checkHand(t, "!"+raised, "func 1; tail 0", f)
		checkHand(t, "!"+raised, f)
		checkHand(t, "false "+raised, "builtin 0; builtin 4; func 1; call 1 2; call 2 0; return 0", f)
		checkHand(t, "false "+raised, "builtin 0; builtin 4; func 2; call 1 2; call 2 0; return 0", f, "const 0; func 1; call 0 0; return 1")
		checkHand(t, "false "+raised, "builtin 0; builtin 4; func 2; call 1 2; call 2 0; return 0", f, "const 0; func 1; tail 0")
		// the inner one of two guards takes it, the outer one sees an end
		checkHand(t, "true false", "builtin 0; builtin 4; builtin 4; func 1; call 2 2; call 2 0; return 0", f)
		checkHand(t, "false "+raised+"|true x", "builtin 0; builtin 4; func 2; call 1 2; call 2 0; return 0", f, "builtin 0; builtin 4; func 1; call 1 2; call 2 0; const 1; return 1")
		// a guard that has ended takes nothing
		checkHand(t, "!"+raised, "builtin 4; builtin 2; call 1 0; func 1; call 0 0; return 0", f)
		checkHand(t, "!"+raised, "builtin 4; func 1; call 1 0; func 1; call 0 0; return 0", f)
		// in a coroutine, whose resume gives it
		checkHand(t, "false "+raised, "builtin 0; builtin 7; builtin 6; func 1; call 1 1; call 1 2; call 2 0; return 0", f)
		checkHand(t, "false "+raised, "builtin 0; builtin 7; builtin 6; func 2; call 1 1; call 1 2; call 2 0; return 0", f, "func 1; call 0 0; return 0")
		// with a guard of its own
		checkHand(t, "false "+raised+"|true x", "builtin 0; builtin 7; builtin 6; func 2; call 1 1; call 1 2; call 2 0; return 0", f, "builtin 0; builtin 4; func 1; call 1 2; call 2 0; const 1; return 1")
		// a guard around the resume sees nothing of it
		checkHand(t, "true false", "builtin 0; builtin 4; builtin 7; builtin 6; func 1; call 1 1; call 2 2; call 2 0; return 0", f)
		// and in the coroutine of a coroutine
		checkHand(t, "false "+raised+"|true nil", "builtin 0; builtin 7; builtin 6; func 2; call 1 1; call 1 2; call 2 0; return 0", f, "builtin 0; builtin 7; builtin 6; func 1; call 1 1; call 1 2; call 2 0; return 0")
	}
}

// What is raised stays the same value, of whatever kind.
func TestRunRaisesEachKind(t *testing.T) {
	for _, s := range samples() {
		f := "1 1 slot0: builtin 5; up 0; call 1 0; return 0"
		checkHand(t, "!"+s.said, s.code+"; new 0; func 2; call 0 0; return 0", "return 0", f)
		checkHand(t, "!"+s.said, s.code+"; new 0; func 2; tail 0", "return 0", f)
		same := "false " + s.said + "|true"
		show := "new 2; new 1; builtin 0; get 1; get 2; call 2 0; builtin 0; get 0; get 2; bin 6; call 1 0; return 0"
		checkHand(t, same, s.code+"; new 0; builtin 4; func 2; call 1 2; "+show, "return 0", f)
		checkHand(t, same, s.code+"; new 0; builtin 7; builtin 6; func 2; call 1 1; call 1 2; "+show, "return 0", f)
		checkHand(t, same, s.code+"; new 0; builtin 4; builtin 5; get 0; call 2 2; "+show, "return 0", f)
	}
	checkRun(t, "error('')", "!")
	checkRun(t, "error()", "!nil")
	checkRun(t, "error('a', 'b')", "!a")
	checkRun(t, "error(-9223372036854775807 - 1)", "!-9223372036854775808")
	o := checkRun(t, "print(1) error('a\\t|\\x00\\xff')", "1!a\t|\x00\xff")
	if o.Code != impl.CodeError {
		t.Errorf("code %d", o.Code)
	}
	// raised again by the one who took it
	checkRun(t, "local ok, e = pcall(function() local ok, e = pcall(error, 'in') print(ok, e) error(e .. 'out') end) print(ok, e)", "false in|false inout")
	checkRun(t, "local ok, e = pcall(function() local ok, e = pcall(error, 'in') error(e) end) error(e)", "!in")
	// what was done before a raise stays done
	checkRun(t, "local n, t = 0, {} pcall(function() n = 1 t.x = 2 print('in') error() end) print(n, t.x)", "in|1 2")
	checkRun(t, "local t = {} local ok, e = pcall(function() t.x, t.y.z = 1, 2 end) print(ok, e, t.x)", "false index 1")
}
