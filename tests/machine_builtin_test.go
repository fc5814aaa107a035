package tests

import (
	"bytes"
	"fmt"
	"strings"
	"testing"

	"loop.example/s02245/impl"
)

func TestRunOfPrint(t *testing.T) {
	o := checkRun(t, "print() print('') print('', '') print(1, 'a\\tb', nil) print('\\n')", "|| |1 a b nil|\n")
	want := []string{"", "", "\t", "1\ta\tb\tnil", "\n"}
	if len(o.Prints) != len(want) {
		t.Fatalf("%q", o.Prints)
	}
	for i, line := range o.Prints {
		if string(line) != want[i] {
			t.Errorf("print %d: %q, want %q", i, line, want[i])
		}
	}
	checkRun(t, "local a = print(1) local b, c = print(2), 3 print(a, b, c)", "1|2|nil nil 3")
	checkRun(t, "print(print) return print('last')", "function|last")
}

func TestRunOfRead(t *testing.T) {
	checkRun(t, "print(read(), read(), read(), read())", "a  b\x00\xff nil", "a", "", "b\x00\xff")
	checkRun(t, "print(read())", "nil")
	checkRun(t, "print(type(read()), type(read()))", "string nil", "")
	checkRun(t, "print(read(1, 2), read(nil)) print(read(), read())", "5 6|7 nil", "5", "6", "7")
	// an input that is not read is not missed, and one that is read is gone
	checkRun(t, "print(read())", "1", "1", "2", "3")
	checkRun(t, "read() local a = read() print(a)", "2", "1", "2", "3")
	// also in a coroutine and under a guard that takes a raise
	checkRun(t, "pcall(function() read() error(1) end) resume(create(read)) print(read(), pcall(read))", "3 true", "1", "2", "3", "4")
	// a number in an input is a text
	checkRun(t, "local a = read() print(a .. 1, a == 7, type(a)) print(a + 1)", "71 false string!arithmetic", "7")
}

func TestRunOfTypeAndString(t *testing.T) {
	checkRun(t, "print(type(), tostring()) print(type(nil, 1), tostring(false, 1))", "nil nil|nil false")
	checkRun(t, "print(tostring(12) == '12', tostring('12') == '12', tostring(nil) == 'nil', tostring({}) == 'table', tostring(type) == 'function', tostring(create(type)) == 'coroutine')", "true true true true true true")
	checkRun(t, "print(tostring(-9223372036854775807 - 1), tostring(0) .. 1, type(tostring(1)))", "-9223372036854775808 01 string")
	checkRun(t, "print(type(type({})), type(function() end) == type(print))", "string true")
}

func TestRunOfPcall(t *testing.T) {
	checkRun(t, "local ok, v, w = pcall(function(a, b) return b, a end, 1, 2, 3) print(ok, v, w)", "true 2 nil")
	checkRun(t, "local ok, v = pcall(function() return end) print(ok, v) ok, v = pcall(function() end) print(ok, v)", "true nil|true nil")
	checkRun(t, "local ok, v = pcall(function() return false, 1 end) print(ok, v) ok, v = pcall(error, false) print(ok, v) ok, v = pcall(error) print(ok, v)", "true false|false false|false nil")
	checkRun(t, "local ok, v = pcall(pcall) print(ok, v) ok, v = pcall(pcall, pcall) print(ok, v) ok, v = pcall(pcall, error) print(ok, v)", "true false|true true|true false")
	checkRun(t, "local ok, v = pcall(tostring) print(ok, v) ok, v = pcall(type, 1) print(ok, v) ok, v = pcall(create, 1) print(ok, v) ok, v = pcall(read) print(ok, v)", "true nil|true number|false argument|true in", "in")
	checkRun(t, "local ok, v = pcall(yield, 1) print(ok, v) ok, v = pcall(resume, create(print), 'r') print(ok, v) ok, v = pcall(status, create(print)) print(ok, v)", "false yield|r|true true|true suspended")
	checkRun(t, "local ok, v = pcall({}) print(ok, v) ok, v = pcall('print') print(ok, v)", "false call|false call")
	// a guard that is tail called, within others
	checkRun(t, "local function f(n) if n == 0 then error('deep') end return pcall(f, n - 1) end local ok, v = f(1) print(ok, v) ok, v = f(2) print(ok, v) ok, v = pcall(f, 0) print(ok, v)", "false deep|true false|false deep")
	// raises far below
	checkRun(t, "local function f(n) if n == 0 then error('deep') end local x = f(n - 1) return x end local ok, v = pcall(f, 50) print(ok, v) print(f(3))", "false deep!deep")
	checkRun(t, "for i = 1, 3 do local ok, v = pcall(function() for k = 1, 3 do if k == i then error(k) end end end) print(i, ok, v) end", "1 false 1|2 false 2|3 false 3")
}

func TestRunOfCreate(t *testing.T) {
	for _, s := range samples() {
		want := "!argument"
		if s.kind == "function" {
			want = "coroutine"
		}
		checkHand(t, want, "builtin 0; builtin 6; "+s.code+"; call 1 1; call 1 0; return 0", "return 0")
		for _, number := range []int{7, 9} {
			want := "!argument"
			if s.kind == "coroutine" {
				want = map[int]string{7: "true", 9: "suspended"}[number]
			}
			checkHand(t, want, fmt.Sprintf("builtin 0; builtin %d; %s; call 1 1; call 1 0; return 0", number, s.code), "return 0")
		}
	}
	checkRun(t, "create()", "!argument")
	checkRun(t, "resume()", "!argument")
	checkRun(t, "status()", "!argument")
	checkRun(t, "local a, b = create(print), create(print) print(a == a, a == b, status(a), status(b))", "true false suspended suspended")
	// nothing is run before it is resumed
	checkRun(t, "local co = create(function() print('run') end) print('made') resume(co) print(status(co))", "made|run|dead")
}

func TestRunOfResume(t *testing.T) {
	checkRun(t, "local co = create(function(a, b) print(a, b) end) print(resume(co, 1, 2))", "1 nil|true")
	checkRun(t, "local co = create(function(a) print(a) end) resume(co)", "nil")
	// one argument goes in, also where it is missing
	checkRun(t, "resume(create(print)) resume(create(print), 1, 2)", "nil|1")
	checkRun(t, "local ok, v = resume(create(pcall), tostring) print(ok, v) ok, v = resume(create(pcall), error) print(ok, v) ok, v = resume(create(pcall)) print(ok, v)", "true true|true false|true false")
	// the four states
	checkRun(t, "local co = create(function() yield() end) print(status(co)) resume(co) print(status(co)) resume(co) print(status(co), resume(co))", "suspended|suspended|dead false")
	checkRun(t, "local co co = create(function() local ok, e = resume(co) print(ok, e, status(co)) end) print(resume(co))", "false cannot resume running|true")
	checkRun(t, "local a, b a = create(function() resume(b) end) b = create(function() local ok, e = resume(a) print(ok, e, status(a), status(b)) end) resume(a) print(status(a), status(b))", "false cannot resume normal running|dead dead")
	checkRun(t, "local co = create(error) local ok, e = resume(co, 'x') print(ok, e) ok, e = resume(co) print(ok, e, status(co))", "false x|false cannot resume dead")
	// one that is normal is running again, and suspended after its own yield
	checkRun(t, "local a a = create(function() resume(create(function() print(status(a)) yield() end)) print(status(a)) yield() end) resume(a) print(status(a))", "normal|running|suspended")
	checkRun(t, "local a a = create(function() resume(create(function() error(1) end)) print(status(a)) end) resume(a) print(status(a))", "running|dead")
	// built-in functions as those of a coroutine
	checkRun(t, "local co = create(resume) local ok, e = resume(co, co) print(ok, e) co = create(status) ok, e = resume(co, co) print(ok, e)", "true false|true running")
	checkRun(t, "local ok, e = resume(create(create), print) print(ok, e, status(e)) ok, e = resume(create(create)) print(ok, e)", "true coroutine suspended|false argument")
	checkRun(t, "local ok, e = resume(create(type)) print(ok, e) ok, e = resume(create(read)) print(ok, e) ok, e = resume(create(resume), create(type)) print(ok, e)", "true nil|true in|true true", "in")
	// in tail position there is no frame left to give it to
	checkRun(t, "return resume(create(function() print('in') yield(1) print('no') end))", "in")
	checkRun(t, "return resume(create(error), 'e')", "")
	checkRun(t, "return resume(1)", "!argument")
}

func TestRunOfYield(t *testing.T) {
	checkRun(t, "yield(1)", "!yield")
	checkRun(t, "return yield()", "!yield")
	checkRun(t, "local ok, e = pcall(yield, 1) print(ok, e) ok, e = pcall(function() yield() end) print(ok, e)", "false yield|false yield")
	checkRun(t, "local co = create(function() yield(1, 2) yield() return 3, 4 end) for i = 1, 4 do local ok, v, w = resume(co) print(ok, v, w) end", "true 1 nil|true nil nil|true 3 nil|false cannot resume nil")
	// what goes in
	checkRun(t, "local co = create(function(a) local b, c = yield(a) print(b, c) local d = yield(b) print(d) return yield(d) end) resume(co, 1) resume(co, 2, 3) resume(co) local ok, v = resume(co, 'last') print(ok, v, status(co))", "2 nil|nil|true last dead")
	// deep in frames, and within guards
	checkRun(t, "local function deep(n) if n == 0 then return yield('deep') end local x = deep(n - 1) return x end local co = create(deep) local ok, v = resume(co, 9) print(ok, v) ok, v = resume(co, 'up') print(ok, v)", "true deep|true up")
	checkRun(t, "local co = create(function() local ok, e = pcall(function() local x = yield(1) error(x) end) local y = yield(e) return ok, y end) for i = 1, 3 do local ok, v = resume(co, i) print(ok, v, status(co)) end", "true 1 suspended|true 2 suspended|true false dead")
	checkRun(t, "local co = create(function() local ok, e = pcall(yield, 'in') print(ok, e) end) print(resume(co)) resume(co, 'out')", "true|true out")
	checkRun(t, "local co = create(function() local ok, e = pcall(pcall, yield, 'in') print(ok, e) end) print(resume(co)) resume(co, 'out')", "true|true true")
	// a guard of the resumer is none of the coroutine, and the other way round
	checkRun(t, "local co = create(function() yield() error('e') end) local ok, v = pcall(function() local a = resume(co) local b, c = resume(co) print(a, b, c) error('own') end) print(ok, v)", "true false e|false own")
	checkRun(t, "local co = create(function() pcall(function() yield() end) end) resume(co) error('out')", "!out")
	// yield of an inner one goes to the one that resumed it
	checkRun(t, "local out = create(function() local inner = create(function() yield('i') end) local ok, v = resume(inner) yield(v .. 'o') ok, v = resume(inner) yield(v) end) for i = 1, 3 do local ok, v = resume(out) print(ok, v) end", "true io|true nil|true nil")
	// resumed from elsewhere than before
	checkRun(t, "local co = create(function() yield(1) yield(2) yield(3) end) local function from() local ok, v = resume(co) return v end print(from()) local ok, v = resume(create(from)) print(v) ok, v = pcall(from) print(v) ok, v = resume(co) print(v, status(co))", "1|2|3|nil dead")
	// a yield in tail position, with a guard left or nothing
	checkRun(t, "local co = create(function() local ok, v = pcall(function() return yield(1) end) print(ok, v) return yield(2) end) resume(co) resume(co, 'a') local ok, v = resume(co, 'b') print(ok, v)", "true a|true b")
}

func TestRunOfCoroutinesAsLists(t *testing.T) {
	src := `local function each(list, n) return create(function() for i = 1, n do yield(list[i]) end return nil end) end
local function next(co) local ok, v = resume(co) return v end
local a, b = each({1, 4, 9}, 3), each({2, 3, 10}, 3)
local x, y = next(a), next(b)
while x or y do
  if not y or x and x < y then print(x) x = next(a) else print(y) y = next(b) end
end
print(status(a), status(b))`
	checkRun(t, src, "1|2|3|4|9|10|dead dead")
	checkRun(t, "local function gen(n) return create(function() for i = 2, n do yield(i) end end) end local function filter(p, g) return create(function() while true do local ok, v = resume(g) if not ok or v == nil then return end if v % p ~= 0 then yield(v) end end end) end local g = gen(30) while true do local ok, p = resume(g) if p == nil then break end print(p) g = filter(p, g) end", "2|3|5|7|11|13|17|19|23|29")
	// many at a time, each with variables of its own
	checkRun(t, "local list = {} for i = 1, 50 do list[i] = create(function(a) while true do a = a + i yield(a) end end) end local sum = 0 for k = 1, 3 do for i = 1, 50 do local ok, v = resume(list[i], 100) sum = sum + v end end print(sum)", "22650")
}

func TestRunOfTextLimits(t *testing.T) {
	full, less := strings.Repeat("a", impl.MaxText), strings.Repeat("a", impl.MaxText-1)
	checkRun(t, "local a = read() print(a .. '')", full, full)
	checkRun(t, "local a = read() print('' .. a)", full, full)
	checkRun(t, "local a = read() print(a .. 'b')", "!too long", full)
	checkRun(t, "local a = read() print('b' .. a)", "!too long", full)
	checkRun(t, "local a = read() print(a .. 'b')", less+"b", less)
	checkRun(t, "local a = read() print(a .. 7)", less+"7", less)
	checkRun(t, "local a = read() print(a .. -7)", "!too long", less)
	checkRun(t, "local a = read() print(7 .. a)", "!too long", full)
	checkRun(t, "local a, b = read(), read() print(a .. b)", full, full[:2500], full[2500:])
	checkRun(t, "local a, b = read(), read() print(a .. b)", "!too long", full[:2500], full[2499:])
	checkRun(t, "local a = read() print(a .. a)", "!too long", full)
	checkRun(t, "local a = read() local n = -9223372036854775807 - 1 print(a .. n)", full[20:]+"-9223372036854775808", full[20:])
	checkRun(t, "local a = read() local n = -9223372036854775807 - 1 print(a .. n)", "!too long", full[19:])
	// a wrong operand goes ahead of the length
	checkRun(t, "local a = read() print(a .. nil)", "!concatenation", full)
	checkRun(t, "local a = '"+full+"' print(a .. '') print(tostring(a) == a, type(a)) error(a)", full+"|true string!"+full)
	checkRun(t, "local a = '"+full+"' local t = {} t[a] = 1 print(t[read()], t[read()])", "1 nil", full, less)
}

// checkPrinted asks for the number of prints and of their bytes.
func checkPrinted(t *testing.T, o impl.Outcome, prints, size int) {
	t.Helper()
	if got := len(bytes.Join(o.Prints, nil)); len(o.Prints) != prints || got != size {
		t.Errorf("%d prints with %d bytes, want %d with %d", len(o.Prints), got, prints, size)
	}
}

func TestRunOfOutputLimits(t *testing.T) {
	full := strings.Repeat("a", impl.MaxText)
	run := func(src string) impl.Outcome {
		t.Helper()
		return ran(t, compiled(t, src), inputsOf(full, full[1:], full[2:]), impl.MaxBudget)
	}
	fill := "local a, b, c = read(), read(), read() for i = 1, 19 do print(a) end "
	checkPrinted(t, run(fill+"print(a)"), 20, 100000)
	checkPrinted(t, run(fill+"print(b) print('x')"), 21, 100000)
	checkPrinted(t, run(fill+"print(c, '')"), 20, 99999)
	checkPrinted(t, run(fill+"print(c, 'x') print() print('')"), 22, 100000)
	for _, more := range []string{"print(a, '')", "print(a) print('x')", "print(b) print('', '', '')", "print(c, 'xx')", "print(c) print(123)", "print(a, a, a)"} {
		o := run(fill + more)
		if o.Code != impl.CodeError || string(o.Error) != "output" {
			t.Errorf("%s: %s", more, showOutcome(o))
		}
	}
	// what does not fit is not printed, what fits behind it is
	o := run(fill + "print(b) local ok, e = pcall(print, 'xx') if e == 'output' then print('x') end local ok, e = pcall(print, 'y') print() error(e)")
	if string(o.Error) != "output" || string(o.Prints[20]) != "x" {
		t.Error(showOutcome(o))
	}
	checkPrinted(t, o, 22, 100000)
	// one print alone
	o = run("local a = read() print(a, a, a, a, a, a, a, a, a, a, a, a, a, a, a, a, a, a, a, read())")
	if o.Code != impl.CodeError || string(o.Error) != "output" || len(o.Prints) > 0 {
		t.Error(showOutcome(o))
	}
	o = run("local a, b, c = read(), read(), read() local d = 0 print(a, a, a, a, a, a, a, a, a, a, a, a, a, a, a, a, a, a, a, 'x')")
	checkPrinted(t, o, 1, 19*5000+19+1)
	// prints of nothing are bounded by the steps alone
	o = run("while true do print() end")
	if o.Code != impl.CodeBudget || len(o.Prints) < 19000 {
		t.Error(showOutcome(o))
	}
}

func TestRunOfInputLimits(t *testing.T) {
	count := compiled(t, "local n, a = 0, read() while a do n = n + 1 a = read() end print(n)")
	for _, n := range []int{0, 1, 999, impl.MaxInputs} {
		o := ran(t, count, make([][]byte, n), impl.MaxBudget)
		if got := endOf(o); got != fmt.Sprint(n) {
			t.Errorf("%d inputs: %s", n, got)
		}
	}
	long := bytes.Repeat([]byte("b"), impl.MaxText)
	echo := compiled(t, "local a, b = read(), read() print(b)")
	if got := endOf(ran(t, echo, [][]byte{nil, long}, 100)); got != string(long) {
		t.Errorf("%s", cut(got))
	}
}
