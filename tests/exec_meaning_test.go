package tests

import "testing"

// checkMeanings asks for what sources show, each with the words of endOf.
func checkMeanings(t *testing.T, rows ...[2]string) {
	t.Helper()
	for _, row := range rows {
		checkExec(t, row[0], row[1])
	}
}

func TestExecOfScopes(t *testing.T) {
	checkMeanings(t,
		// a name means the variable that was declared last, from behind its statement on
		[2]string{"local a = 1 local a = a + 1 print(a)", "2"},
		[2]string{"local a = 1 local a, b = a + 1, a + 2 print(a, b)", "2 3"},
		[2]string{"local a, a = 1, 2 print(a)", "2"},
		[2]string{"local a local b = a print(a, b)", "nil nil"},
		[2]string{"local function f(a, a) print(a) end f(1, 2)", "2"},
		[2]string{"local function f(a) local a = a + 1 print(a) end f(1)", "2"},
		[2]string{"local a = 1 do local a = 2 print(a) end print(a)", "2|1"},
		[2]string{"local a = 1 do a = 2 local a = 3 a = 4 print(a) end print(a)", "4|2"},
		[2]string{"local a = 1 do local b = a local a = 5 b = b + a print(b) end print(a)", "6|1"},
		[2]string{"do local a = 1 end local b print(b)", "nil"},
		[2]string{"do local a = 1 end do local b print(b) end", "nil"},
		[2]string{"local x = 1 if x then local x = 2 print(x) else local x = 3 print(x) end print(x)", "2|1"},
		[2]string{"local x = 1 if nil then local x = 2 elseif x == 1 then local x = 3 print(x) end print(x)", "3|1"},
		[2]string{"local x = 0 while x < 2 do x = x + 1 local x = 9 print(x) end print(x)", "9|9|2"},
		[2]string{"local x = 5 repeat local x = 1 until x == 1 print(x)", "5"},
		[2]string{"local x = 0 repeat x = x + 1 local y = x * 2 until y > 4 print(x)", "3"},
		[2]string{"local i = 7 for i = i, i + 1 do print(i) end print(i)", "7|8|7"},
		[2]string{"local i = 1 for k = i, 2 do local i = k * 10 print(i) end print(i)", "10|20|1"},
		// a local function sees itself, a local with a function what was there before
		[2]string{"local function f(n) if n == 0 then return 'end' end return f(n - 1) end print(f(5))", "end"},
		[2]string{"local f = 1 local f = function() return f end print(f())", "1"},
		[2]string{"local f = 1 local function f() return f end print(type(f()), f() == f)", "function true"},
		[2]string{"local function f() return 1 end local function f() return type(f) end print(f())", "function"},
		// built-in functions are hidden like all others
		[2]string{"local print, show = type, print show(print(1))", "number"},
		[2]string{"local show = print do local print = 1 show(print) end print(2)", "1|2"},
		[2]string{"local function f(print) return print end print(f(3))", "3"},
		[2]string{"local tostring = 5 print(tostring)", "5"},
		[2]string{"local t = {print = 1} print(t.print)", "1"},
		// each call has variables of its own
		[2]string{"local function f(n) local a = n if n > 0 then f(n - 1) end print(a) end f(2)", "0|1|2"},
		[2]string{"local function f(n) local a if n == 1 then a = 5 end print(a) if n > 0 then f(n - 1) end end f(2)", "nil|5|nil"},
		[2]string{"local k = 0 while k < 2 do local a print(a) a = k k = k + 1 end", "nil|nil"},
		[2]string{"for i = 1, 2 do local a print(a) a = i end", "nil|nil"},
	)
}

func TestExecOfClosures(t *testing.T) {
	checkMeanings(t,
		// a variable is shared by its function and all that capture it
		[2]string{"local a = 1 local f = function() a = a + 1 return a end print(f(), f(), a) a = 10 print(f())", "2 3 3|11"},
		[2]string{"local a = 1 local function up() a = a + 1 end local function get() return a end up() up() print(get(), a)", "3 3"},
		[2]string{"local function new() local n = 0 return function() n = n + 1 return n end, function() return n end end local a, b = new() a() a() local c, d = new() c() print(b(), d())", "2 1"},
		[2]string{"local function new(n) return function() n = n + 1 return n end end local a, b = new(1), new(10) print(a(), b(), a(), b())", "2 11 3 12"},
		[2]string{"local a = 1 local f = function() return a end local a = 2 print(f(), a)", "1 2"},
		[2]string{"local f do local a = 1 f = function() a = a + 1 return a end end local b = 50 print(f(), f(), b)", "2 3 50"},
		[2]string{"local f, g do local a = 1 f = function() return a end end do local b = 2 g = function() return b end end print(f(), g())", "1 2"},
		[2]string{"local a = 1 local f = function() return function() return function() a = a * 2 return a end end end print(f()()(), f()()(), a)", "2 4 4"},
		[2]string{"local a, b, c = 1, 2, 3 local f = function() local g = function() return c, a end local x, y = g() return x * 10 + y + b end print(f())", "33"},
		[2]string{"local f = function(a) return function(b) return function(c) return a * 100 + b * 10 + c end end end print(f(1)(2)(3))", "123"},
		[2]string{"local fs = {} local function f(n) fs[n] = function() n = n + 10 return n end if n > 1 then f(n - 1) end end f(3) print(fs[1](), fs[2](), fs[3](), fs[1]())", "11 12 13 21"},
		[2]string{"local t = {} local function f() local x = 0 t.up = function() x = x + 1 end t.get = function() return x end end f() t.up() t.up() print(t.get()) f() print(t.get())", "2|0"},
		[2]string{"local f local function g() return f() end f = function() return 'late' end print(g())", "late"},
		[2]string{"local even, odd even = function(n) if n == 0 then return true end return odd(n - 1) end odd = function(n) if n == 0 then return false end return even(n - 1) end print(even(10), odd(10))", "true false"},
		// a round of a loop has variables of its own
		[2]string{"local fs = {} for i = 1, 3 do fs[i] = function() i = i + 10 return i end end print(fs[1](), fs[1](), fs[2](), fs[3]())", "11 21 12 13"},
		[2]string{"local fs, k = {}, 0 while k < 3 do k = k + 1 local n = k fs[k] = function() n = n * 2 return n end end print(fs[1](), fs[2](), fs[3](), fs[1]())", "2 4 6 4"},
		[2]string{"local fs, k = {}, 0 repeat k = k + 1 local n = k fs[k] = function() return n end until n == 3 print(fs[1](), fs[2](), fs[3](), k)", "1 2 3 3"},
		[2]string{"local fs, k = {}, 0 while k < 2 do k = k + 1 local n local m = k fs[k] = function(v) local old = n n = v return old end end fs[1](5) print(fs[1](6), fs[2](7), fs[2](8))", "5 nil 7"},
		[2]string{"local f for i = 1, 3 do local g = f f = function() if g then return g() + i end return i end end print(f())", "6"},
		[2]string{"local fs = {} for i = 1, 2 do local a = i for k = 1, 2 do fs[i * 10 + k] = function() a = a + k return a end end end print(fs[11](), fs[12](), fs[21](), fs[22](), fs[11]())", "2 4 3 5 5"},
		[2]string{"local f for i = 1, 3 do if i == 2 then f = function() return i end break end end print(f())", "2"},
		[2]string{"local f repeat local n = 1 f = function() n = n + 1 return n end until f() == 2 print(f())", "3"},
		// the function of a repeat's condition sees the variable of its round
		[2]string{"local k, g = 0 repeat k = k + 1 local n = k until (function() g = function() return n end return n > 1 end)() print(g())", "2"},
		// each is a new function
		[2]string{"local function f() return function() end end print(f() == f(), f == f)", "false true"},
		[2]string{"local a, b for i = 1, 2 do local g = function() end if a then b = g else a = g end end print(a == b, a ~= b)", "false true"},
	)
}

func TestExecOfLoops(t *testing.T) {
	checkMeanings(t,
		[2]string{"for i = 1, 3 do print(i) end", "1|2|3"},
		[2]string{"for i = 3, 1 do print(i) end", ""},
		[2]string{"for i = 3, 1, -1 do print(i) end", "3|2|1"},
		[2]string{"for i = 1, 3, -1 do print(i) end", ""},
		[2]string{"for i = 1, 1 do print(i) end for i = 1, 1, -5 do print(i) end", "1|1"},
		[2]string{"for i = -3, 3, 3 do print(i) end for i = 3, -3, -4 do print(i) end", "-3|0|3|3|-1"},
		[2]string{"for i = 1, 2, 0x7fffffffffffffff do print(i) end", "1"},
		// to the ends of what a number can be
		[2]string{"for i = 0x7ffffffffffffffd, 0x7fffffffffffffff, 2 do print(i) end", "9223372036854775805|9223372036854775807"},
		[2]string{"for i = 0x7ffffffffffffffe, 0x7fffffffffffffff, 2 do print(i) end", "9223372036854775806"},
		[2]string{"for i = 0x7ffffffffffffffe, 0x7fffffffffffffff do print(i) end", "9223372036854775806|9223372036854775807"},
		[2]string{"for i = 0x8000000000000002, 0x8000000000000000, -1 do print(i) end", "-9223372036854775806|-9223372036854775807|-9223372036854775808"},
		[2]string{"for i = 0x8000000000000001, 0x8000000000000000, -2 do print(i) end", "-9223372036854775807"},
		[2]string{"for i = 0x8000000000000000, 0x7fffffffffffffff, 0x7fffffffffffffff do print(i) end", "-9223372036854775808|-1|9223372036854775806"},
		[2]string{"for i = 0x7fffffffffffffff, 0x8000000000000000, 0x8000000000000000 do print(i) end", "9223372036854775807|-1"},
		[2]string{"for i = 0, 0x8000000000000000, 0x8000000000000000 do print(i) end", "0|-9223372036854775808"},
		// the three numbers are worked out once, from the left
		[2]string{"local function say(v) print(v) return v end for i = say(1), say(2), say(1) do print('in', i) end", "1|2|1|in 1|in 2"},
		[2]string{"local n, d = 3, 1 for i = 1, n, d do n, d = 10, 5 print(i) end", "1|2|3"},
		[2]string{"for i = 1, 3 do print(i) i = i + 10 print(i) end", "1|11|2|12|3|13"},
		[2]string{"local function say(v) print(v) return v end for i = say(nil), say('x'), say(0) do end", "nil|x|0!for"},
		[2]string{"for i = 1, (function() return 2, 3 end)() do print(i) end", "1|2"},
		// breaks
		[2]string{"for i = 1, 9 do if i == 3 then break end print(i) end print('end')", "1|2|end"},
		[2]string{"for i = 1, 2 do for k = 1, 9 do if k > i then break end print(i, k) end end", "1 1|2 1|2 2"},
		[2]string{"local i = 0 while true do i = i + 1 if i > 2 then break end print(i) end print('end')", "1|2|end"},
		[2]string{"local i = 0 repeat i = i + 1 if i == 2 then break end print(i) until false print('end')", "1|end"},
		[2]string{"while true do do do break end end end print(1)", "1"},
		[2]string{"repeat break until error('x') print(1)", "1"},
		[2]string{"for i = 1, 3 do while true do repeat break until false break end print(i) end", "1|2|3"},
		[2]string{"while true do if nil then elseif true then break else end end print(1)", "1"},
		[2]string{"for i = 1, 3 do local f = function() for k = 1, 9 do if k == 2 then break end print(i, k) end end f() end", "1 1|2 1|3 1"},
		// conditions, each time ahead of a round or behind it
		[2]string{"local n = 0 local function c() n = n + 1 print('c', n) return n < 3 end while c() do print('in') end", "c 1|in|c 2|in|c 3"},
		[2]string{"local n = 0 local function c() n = n + 1 print('c', n) return n == 2 end repeat print('in') until c()", "in|c 1|in|c 2"},
		[2]string{"while nil do print(1) end while false do print(1) end repeat print(2) until 0 repeat print(3) until ''", "2|3"},
		[2]string{"if nil then print(1) elseif false then print(2) elseif 0 then print(3) else print(4) end", "3"},
		[2]string{"if nil then print(1) else print(2) end if false then print(3) end if {} then print(4) end", "2|4"},
		[2]string{"local function say(v) print(v) return v end if say(nil) then elseif say(1) then print('in') elseif say(2) then end", "nil|1|in"},
		// returns out of loops
		[2]string{"local function f() for i = 1, 9 do while true do repeat if i == 3 then return i end break until false break end end end print(f())", "3"},
		[2]string{"for i = 1, 9 do print(i) if i == 2 then return end end print('never')", "1|2"},
		[2]string{"local function f() while true do return 1, 2 end end local a, b, c = f() print(a, b, c)", "1 2 nil"},
	)
	for _, wrong := range []string{"nil, 1", "1, nil", "1, 2, nil", "'1', 2", "1, '2'", "1, 2, '1'", "{}, 1", "1, true", "1, 2, 0", "2, 1, 0", "print, 1", "1, 0, nil", "1, 2, (function() end)()"} {
		checkExec(t, "print(0) for i = "+wrong+" do print(i) end print(1)", "0!for")
	}
}

func TestExecOfSeveralResults(t *testing.T) {
	const give = "local function none() end local function one() return 1 end local function two() return 1, 2 end local function three() return 1, 2, 3 end local function tail() return three() end "
	for _, row := range [][2]string{
		// where one is wanted
		{"print(none(), one(), two(), three(), tail())", "nil 1 1 1 1"},
		{"print(two(), two())", "1 1"},
		{"local t = {three(), three()} print(t[1], t[2], t[3])", "1 1 nil"},
		{"local a = three() + three() print(a)", "2"},
		{"print((three()))", "1"},
		{"local t = {x = two(), [two()] = three()} print(t.x, t[1])", "1 1"},
		{"if none() then print(1) else print(2) end", "2"},
		{"print(none() == nil, not none(), two() == 1)", "true true true"},
		{"local function f(a, b) print(a, b) end f(three()) f(three(), three())", "1 nil|1 1"},
		{"local function f() return three(), three() end local a, b, c = f() print(a, b, c)", "1 1 nil"},
		{"local function f() return 0, three() end local a, b, c = f() print(a, b, c)", "0 1 nil"},
		// where none are wanted
		{"none() one() two() three() tail() print('end')", "end"},
		// where more are wanted
		{"local a, b, c, d = three() print(a, b, c, d)", "1 2 3 nil"},
		{"local a, b, c = 0, three() print(a, b, c)", "0 1 2"},
		{"local a, b, c = three(), 9 print(a, b, c)", "1 9 nil"},
		{"local a, b, c = three(), three() print(a, b, c)", "1 1 2"},
		{"local a, b = 7, 8, three() print(a, b)", "7 8"},
		{"local a, b = three() print(a, b)", "1 2"},
		{"local a, b, c = (three()) print(a, b, c)", "1 2 3"},
		{"local a, b, c = tail() print(a, b, c)", "1 2 3"},
		{"local a, b = none() print(a, b)", "nil nil"},
		{"local a, b = 5, none() print(a, b)", "5 nil"},
		{"local a, b = none(), 5 print(a, b)", "nil 5"},
		{"local a, b, c a, b, c = two() print(a, b, c)", "1 2 nil"},
		{"local a, b, c = 9, 9, 9 a, b, c = 0, two() print(a, b, c)", "0 1 2"},
		{"local a, b = 9, 9 a, b = three() print(a, b) a, b = 5 print(a, b) a, b = 1, 2, 3 print(a, b)", "1 2|5 nil|1 2"},
		{"local a = 9 a = three() print(a) a = none() print(a) a = 1, 2 print(a)", "1|nil|1"},
		{"local t = {} t.a, t.b, t.c = three() print(t.a, t.b, t.c)", "1 2 3"},
		{"local a, b, c = 1 and three() print(a, b, c) local d, e = nil or three() print(d, e)", "1 nil nil|1 nil"},
		{"local a, b = -one() print(a, b)", "-1 nil"},
		// pcall gives one result of its function, resume too
		{"local a, b, c = pcall(three) print(a, b, c)", "true 1 nil"},
		{"local a, b = pcall(none) print(a, b)", "true nil"},
		{"local a, b, c = resume(create(three)) print(a, b, c)", "true 1 nil"},
		{"local a, b = print(1) print(a, b)", "1|nil nil"},
		{"local a, b = tostring(5), type(nil) print(a, b)", "5 nil"},
		{"local a, b, c = pcall(pcall, three) print(a, b, c)", "true true nil"},
		// what is too much is left out, what is missing is nil
		{"local function f(a, b) print(a, b) end f() f(1) f(1, 2) f(1, 2, 3)", "nil nil|1 nil|1 2|1 2"},
		{"local function f() print('f') end f(1, 2, 3)", "f"},
	} {
		checkExec(t, give+row[0], row[1])
	}
}

func TestExecOfOrder(t *testing.T) {
	const say = "local function say(v) print(v) return v end local function fail(v) error(v) end local t = {} "
	for _, row := range [][2]string{
		{"local a = say(1) + say(2) * say(3) print(a)", "1|2|3|7"},
		{"local a = (say(1) + say(2)) * say(3) print(a)", "1|2|3|9"},
		{"local a = say(10) - say(3) - say(2) print(a)", "10|3|2|5"},
		{"local a = say('a') .. say('b') .. say('c') print(a)", "a|b|c|abc"},
		{"local a = say(1) < say(2) print(a) print(say(1) == say('1'))", "1|2|true|1|1|false"},
		{"print(say(1), say(2), say(3))", "1|2|3|1 2 3"},
		{"say(print)(say(1), say(2))", "function|1|2|1 2"},
		{"local a = {say(1), x = say(2), [say(3)] = say(4), say(5)} print(a[1], a.x, a[3], a[2])", "1|2|3|4|5|1 2 4 5"},
		{"local a, b = say(1), say(2), say(3) print(a, b)", "1|2|3|1 2"},
		{"local a, b, c = say(1) print(a, b, c)", "1|1 nil nil"},
		{"return say(1), say(2)", "1|2"},
		// one entry: the table, the key, then the values; several: the values first
		{"say(t)[say('k')] = say('v') print(t.k)", "table|k|v|v"},
		{"say(t)[say('k')], say(t)[say('l')] = say('v'), say('w') print(t.k, t.l)", "v|w|table|k|table|l|v w"},
		{"local i = 1 i, t[i] = 2, 'x' print(i, t[1], t[2])", "2 nil x"},
		{"local i = 1 t[i], i = 'x', 2 print(i, t[1], t[2])", "2 x nil"},
		{"local a, b = 1, 2 a, b = b, a print(a, b)", "2 1"},
		{"local a, b, c = 1, 2, 3 a, b, c = c, a, b print(a, b, c)", "3 1 2"},
		{"local a = 1 a, a = 2, 3 print(a)", "3"},
		{"t.x = 1 t.x, t.x = 2, 3 print(t.x)", "3"},
		{"local u = t t, t.x = {}, 1 print(t.x, u.x)", "1 nil"},
		{"local u = t t.x, t = 1, {} print(t.x, u.x)", "nil 1"},
		{"t[say(1)] = say(2), say(3) print(t[1])", "1|2|3|2"},
		// and and or work out the right side only where it is needed
		{"print(say(nil) and say(1), say(false) and say(1), say(0) and say(2))", "nil|false|0|2|nil false 2"},
		{"print(say(nil) or say(1), say(false) or say(nil), say(0) or say(2))", "nil|1|false|nil|0|1 nil 0"},
		{"print(say(1) and say(nil) or say(3))", "1|nil|3|3"},
		{"print(say(nil) and fail(1) or say(3) or fail(2))", "nil|3|3"},
		{"print(say(1) or fail(1) and fail(2))", "1|1"},
		{"print(not (say(nil) and fail(1)), not say(1))", "nil|1|true false"},
		{"print(nil and 1, false and 1, 0 and 1, '' and 1, {} and 1, nil or 1, false or 1, true or 1, 0 or 1)", "nil false 1 1 1 1 1 true 0"},
		// what was done ahead of a raise is done
		{"print(pcall(function() t.a = 1 t.b = say(2) + fail('x') + say(3) end)) print(t.a, t.b)", "2|false|1 nil"},
		{"pcall(function() t[say(1)] = fail() end) pcall(function() t[fail()] = say(1) end) pcall(function() fail()[say(1)] = say(2) end)", "1"},
		{"pcall(function() print(say(1), fail(), say(2)) end) print('end')", "1|end"},
		{"local a, b = 1, 2 pcall(function() a, b = say(3), fail() end) print(a, b) pcall(function() a, b[1] = 5, 6 end) print(a, b)", "3|1 2|5 2"},
		{"pcall(function() local u = {say(1), [say(nil)] = say(2), say(3)} end)", "1|nil|2"},
		{"pcall(function() (nil)(say(1), say(2)) end) pcall(function() local a = (nil)[say(1)] end)", "1|2|1"},
	} {
		checkExec(t, say+row[0], row[1])
	}
}

func TestExecOfErrors(t *testing.T) {
	checkMeanings(t,
		[2]string{"local ok, e = pcall(error, 'x') print(ok, e)", "false x"},
		[2]string{"local ok, e = pcall(error) print(ok, e)", "false nil"},
		[2]string{"local ok, e = pcall(error, nil) print(ok, e)", "false nil"},
		[2]string{"local t = {} local ok, e = pcall(error, t) print(ok, e == t)", "false true"},
		[2]string{"local ok, e = pcall() print(ok, e)", "false call"},
		[2]string{"local ok, e = pcall(1) print(ok, e)", "false call"},
		[2]string{"local ok, e = pcall(function() return 1, 2 end) print(ok, e)", "true 1"},
		[2]string{"local ok, e = pcall(function(a, b) return b, a end, 1, 2) print(ok, e)", "true 2"},
		[2]string{"local function f(n) if n == 0 then error('deep') end f(n - 1) print('never') end local ok, e = pcall(f, 20) print(ok, e)", "false deep"},
		[2]string{"local ok, e = pcall(function() local ok, e = pcall(error, 1) print(ok, e) error(e + 1) end) print(ok, e)", "false 1|false 2"},
		[2]string{"local a, b, c = pcall(pcall, error, 'x') print(a, b, c)", "true false nil"},
		[2]string{"local function f() return pcall(error, 'x') end local ok, e = f() print(ok, e)", "false x"},
		[2]string{"local function f() return pcall(function() return 'y' end) end local ok, e = f() print(ok, e)", "true y"},
		[2]string{"for i = 1, 3 do local ok, e = pcall(function() if i == 2 then error(i) end return -i end) print(ok, e) end", "true -1|false 2|true -3"},
		[2]string{"local n = 0 repeat n = n + 1 local ok = pcall(function() if n < 3 then error() end end) until ok print(n)", "3"},
		[2]string{"while true do local ok, e = pcall(function() error('x') end) print(e) break end", "x"},
		[2]string{"local a = 1 pcall(function() a = 2 error() end) print(a)", "2"},
		[2]string{"local f = pcall print(f(error) == false, pcall(pcall))", "true true"},
		[2]string{"local ok, e = pcall(print, 'in') print(ok, e)", "in|true nil"},
		[2]string{"local ok, e = pcall(tostring, 5) print(ok, e, type(e))", "true 5 string"},
		[2]string{"pcall(error, 1) error('out')", "!out"},
		[2]string{"print(1) pcall(function() print(2) error(3) print(4) end) print(5) error(6) print(7)", "1|2|5!6"},
		[2]string{"local ok, e = pcall(function() return error('tail') end) print(ok, e)", "false tail"},
		[2]string{"local ok, e = pcall(error, 'a', 'b') print(ok, e)", "false a"},
		[2]string{"error(pcall(error, 'x'))", "!false"},
		[2]string{"local ok, e = pcall(function() local x = 1 // 0 end) print(ok, e) local ok, e = pcall(function() return 1 % 0 end) print(ok, e)", "false zero|false zero"},
	)
}

func TestExecOfTailCalls(t *testing.T) {
	checkMeanings(t,
		[2]string{"local function f(n, a) if n == 0 then return a end return f(n - 1, a + n) end print(f(1000, 0))", "500500"},
		[2]string{"local function f() return 1, 2, 3 end local function g() return f() end local a, b, c, d = g() print(a, b, c, d)", "1 2 3 nil"},
		[2]string{"local function f() return 1, 2 end local function g() return (f()) end local a, b = g() print(a, b)", "1 2"},
		[2]string{"local function f() end local function g() return f() end local a, b = g() print(a, b)", "nil nil"},
		[2]string{"local function f(x) return print(x) end f(1) return f(2)", "1|2"},
		[2]string{"return print('a'), print('b')", "a|b"},
		[2]string{"return (nil)()", "!call"},
		[2]string{"print(1) return error(2)", "1!2"},
		[2]string{"local t = {} t.f = function(n) if n > 0 then return t.f(n - 1) end return 'end' end print(t.f(9))", "end"},
		[2]string{"local function f(n) if n == 0 then return type end return f(n - 1) end print(f(3)(1))", "number"},
		[2]string{"local function f(g, v) return g(v) end print(f(tostring, 1), f(type, 1), f(f, type))", "1 number nil"},
		[2]string{"local function f(n) local m = n local g = function() return m end if n == 0 then return g() end return f(n - 1) end print(f(4))", "0"},
		[2]string{"local k = {} local function f(n) k[n] = function() return n end if n > 1 then return f(n - 1) end end f(3) print(k[1](), k[2](), k[3]())", "1 2 3"},
	)
}

func TestExecOfValues(t *testing.T) {
	checkMeanings(t,
		[2]string{"print(nil, true, false, 0, -1, '', 'x', {}, print, function() end, create(print))", "nil true false 0 -1  x table function function coroutine"},
		[2]string{"print(type(nil), type(true), type(1), type(''), type({}), type(print), type(type), type(function() end), type(create(print)))", "nil boolean number string table function function function coroutine"},
		[2]string{"print(tostring(nil) .. tostring(true) .. tostring(-3) .. tostring('x') .. tostring({}))", "niltrue-3xtable"},
		[2]string{"print(1 == 1, 1 == '1', '1' == '1', nil == false, {} == {}, print == print, print == type, true == true, 'a' ~= 'b', 1 ~= 1)", "true false true false false true false true true false"},
		[2]string{"local a, b = {}, {} local c = a print(a == b, a == c, a ~= b, a ~= c)", "false true true false"},
		[2]string{"print('a' < 'b', 'a' < 'aa', '' < 'a', 'Z' < 'a', '10' < '9', 'b' <= 'b', 'b' >= 'c', '\\xff' > 'z')", "true true true true true true false true"},
		[2]string{"print(1 < 2, 2 <= 2, -1 > 0, 3 >= 4, 0x8000000000000000 < 0x7fffffffffffffff)", "true true false false true"},
		[2]string{"print(1 .. 2, 'a' .. 1 .. 'b', -1 .. '', '' .. 0x10)", "12 a1b -1 16"},
		[2]string{"print('abc', 'abcd', 'abc', 1, '1', 'abce', 0x1, '', 'ab', 'abc\\x00', 'ABC')", "abc abcd abc 1 1 abce 1  ab abc\x00 ABC"},
		// how tightly operators bind
		[2]string{"print(1 + 2 * 3 - 4 // 2, 2 * 3 % 4, 10 - 2 - 3, 100 // 10 // 5, -2 * -3, - 2 + 5)", "5 2 5 2 6 3"},
		[2]string{"print(1 + 1 .. 2 * 3, 1 .. 2 == 12 .. '', not 1 == 2, not (1 == 2), -3 % 5, -(3 % 5))", "26 true false true 2 -3"},
		[2]string{"print(1 < 2 == true, 1 or 2 and nil, nil and 1 or 2, false == nil or 3, 1 == 1 and 'y' or 'n')", "true 1 2 3 y"},
		[2]string{"print(7 // 2, -7 // 2, 7 // -2, -7 // -2, 7 % 3, -7 % 3, 7 % -3, -7 % -3)", "3 -4 -4 3 1 2 -2 -1"},
		[2]string{"print(0x7fffffffffffffff + 1, -0x8000000000000000, 0x8000000000000000 // -1, 0x8000000000000000 % -1, 0xffffffffffffffff)", "-9223372036854775808 -9223372036854775808 -9223372036854775808 0 -1"},
		// tables
		[2]string{"local t = {1, 2, x = 'a', [5] = 6, 3} print(t[1], t[2], t[3], t[4], t[5], t.x, t.y)", "1 2 3 nil 6 a nil"},
		[2]string{"local t = {[1] = 'a', 'b'} print(t[1]) local u = {'b', [1] = 'a'} print(u[1])", "b|a"},
		[2]string{"local t = {} t[1], t['1'], t[true], t[false], t[print] = 1, 2, 3, 4, 5 print(t[1], t['1'], t[true], t[false], t[print], t[type], t[nil])", "1 2 3 4 5 nil nil"},
		[2]string{"local k, t = {}, {} t[k] = 1 t[{}] = 2 print(t[k], t[{}])", "1 nil"},
		[2]string{"local t = {x = 1} t.x = nil print(t.x) t.x = 2 print(t.x, t['x'])", "nil|2 2"},
		[2]string{"local t = {} t.t = t t.t.t.x = 1 print(t.x, t.t.x, t.t.t == t)", "1 1 true"},
		[2]string{"local a = {} local b = a b.x = 1 print(a.x) local function f(t) t.x = 2 end f(a) print(b.x)", "1|2"},
		[2]string{"print(({1, 2, {3}})[3][1], ({x = 'y'}).x, (function() return {z = 7} end)().z)", "3 y 7"},
		[2]string{"local t = {f = function(a) return a * 2 end} print(t.f(4), t['f'](5)) t.f = print t.f(1)", "8 10|1"},
		[2]string{"local t = {} for i = 1, 5 do t[i] = i * i end local s = 0 for i = 1, 5 do s = s + t[i] end print(s)", "55"},
		[2]string{"local t = {} t[-1], t[0], t[0x7fffffffffffffff] = 1, 2, 3 print(t[-1], t[0], t[9223372036854775807])", "1 2 3"},
	)
}
