package tests

import (
	"strconv"
	"testing"
)

func TestCodeOfExpressions(t *testing.T) {
	checkCode(t, "", "", "[0 0] return 0;")
	checkCode(t, "return nil, true, false", "", "[0 0] nil; true; false; return 3; return 0;")
	checkCode(t, "return 7, 'x'", `7 "x"`, "[0 0] const 0; const 1; return 2; return 0;")
	checkCode(t, "return print, status", "", "[0 0] builtin 0; builtin 9; return 2; return 0;")
	checkCode(t, "return read, tostring, type, pcall, error, create, resume, yield", "",
		"[0 0] builtin 1; builtin 2; builtin 3; builtin 4; builtin 5; builtin 6; builtin 7; builtin 8; return 8; return 0;")
	checkCode(t, "local a return a", "", "[0 1] nil; new 0; get 0; return 1; return 0;")
	checkCode(t, "local a return a[a].b", `"b"`, "[0 1] nil; new 0; get 0; get 0; index; const 0; index; return 1; return 0;")
	checkCode(t, "local a = type(1, read(2), 3)", "1 2 3",
		"[0 1] builtin 3; const 0; builtin 1; const 1; call 1 1; const 2; call 3 1; new 0; return 0;")
	checkCode(t, "return {}, 1", "1", "[0 0] table; const 0; return 2; return 0;")
	checkCode(t, "return {nil, x = true, [false] = {}}, 0", `1 "x" 0`,
		"[0 0] table; const 0; nil; field; const 1; true; field; false; table; field; const 2; return 2; return 0;")
	checkCode(t, "return not nil, -true", "", "[0 0] nil; not; true; neg; return 2; return 0;")
	checkCode(t, "return 0 + (1 - 2 * 3), 4", "0 1 2 3 4",
		"[0 0] const 0; const 1; const 2; const 3; bin 2; bin 1; bin 0; const 4; return 2; return 0;")
	for i, op := range []string{"+", "-", "*", "//", "%", "..", "==", "~=", "<", "<=", ">", ">="} {
		checkCode(t, "return nil "+op+" true", "", "[0 0] nil; true; bin "+strconv.Itoa(i)+"; return 1; return 0;")
	}
	checkCode(t, "return nil and true, 1", "1", "[0 0] nil; and 3; true; const 0; return 2; return 0;")
	checkCode(t, "return nil or true, 1", "1", "[0 0] nil; or 3; true; const 0; return 2; return 0;")
	checkCode(t, "return nil and (true and false) or nil", "", "[0 0] nil; and 5; true; and 5; false; or 7; nil; return 1; return 0;")
	checkCode(t, "return (nil or true) and (false or nil)", "", "[0 0] nil; or 3; true; and 7; false; or 7; nil; return 1; return 0;")
	checkCode(t, "return function() end, 1", "1", "[0 0] func 1; const 0; return 2; return 0;", "[0 0] return 0;")
}

func TestCodeOfLists(t *testing.T) {
	// fewer, as many and more expressions than names
	checkCode(t, "local a, b, c", "", "[0 3] nil; nil; nil; new 2; new 1; new 0; return 0;")
	checkCode(t, "local a, b, c = true", "", "[0 3] true; nil; nil; new 2; new 1; new 0; return 0;")
	checkCode(t, "local a, b = true, false", "", "[0 2] true; false; new 1; new 0; return 0;")
	checkCode(t, "local a, b = true, false, nil, 1", "1", "[0 2] true; false; nil; pop; const 0; pop; new 1; new 0; return 0;")
	// with a call as the last one
	checkCode(t, "local a, b, c = read()", "", "[0 3] builtin 1; call 0 3; new 2; new 1; new 0; return 0;")
	checkCode(t, "local a, b, c = 1, read(2)", "1 2", "[0 3] const 0; builtin 1; const 1; call 1 2; new 2; new 1; new 0; return 0;")
	checkCode(t, "local a, b = 1, read()", "1", "[0 2] const 0; builtin 1; call 0 1; new 1; new 0; return 0;")
	checkCode(t, "local a = 1, read()", "1", "[0 1] const 0; builtin 1; call 0 1; pop; new 0; return 0;")
	checkCode(t, "local a, b = (read())", "", "[0 2] builtin 1; call 0 2; new 1; new 0; return 0;")
	// with a call elsewhere, or below the last one
	checkCode(t, "local a, b, c = read(), true", "", "[0 3] builtin 1; call 0 1; true; nil; new 2; new 1; new 0; return 0;")
	checkCode(t, "local a = read(), read()", "", "[0 1] builtin 1; call 0 1; builtin 1; call 0 1; pop; new 0; return 0;")
	checkCode(t, "local a, b = not read()", "", "[0 2] builtin 1; call 0 1; not; nil; new 1; new 0; return 0;")
	checkCode(t, "local a, b = type(read())", "", "[0 2] builtin 3; builtin 1; call 0 1; call 1 2; new 1; new 0; return 0;")
	checkCode(t, "local a, b = {read()}", "1", "[0 2] table; const 0; builtin 1; call 0 1; field; nil; new 1; new 0; return 0;")
	// a function is no call
	checkCode(t, "local a, b = function() end", "", "[0 2] func 1; nil; new 1; new 0; return 0;", "[0 0] return 0;")
}

func TestCodeOfAssignments(t *testing.T) {
	checkCode(t, "local a a = 1", "1", "[0 1] nil; new 0; const 0; set 0; return 0;")
	checkCode(t, "local a a = 1, 2", "1 2", "[0 1] nil; new 0; const 0; const 1; pop; set 0; return 0;")
	checkCode(t, "local a a = read()", "", "[0 1] nil; new 0; builtin 1; call 0 1; set 0; return 0;")
	checkCode(t, "local a a = read(), 1", "1", "[0 1] nil; new 0; builtin 1; call 0 1; const 0; pop; set 0; return 0;")
	checkCode(t, "local a a.x = 1, 2", `"x" 1 2`, "[0 1] nil; new 0; get 0; const 0; const 1; const 2; pop; store; return 0;")
	checkCode(t, "local a a[read()] = read()", "", "[0 1] nil; new 0; get 0; builtin 1; call 0 1; builtin 1; call 0 1; store; return 0;")
	checkCode(t, "print.x = nil", `"x"`, "[0 0] builtin 0; const 0; nil; store; return 0;")
	checkCode(t, "local a, b a, b = b, a", "",
		"[0 4] nil; nil; new 1; new 0; get 1; get 0; new 3; new 2; get 2; set 0; get 3; set 1; return 0;")
	checkCode(t, "local a a, a.x, a = read()", `"x"`,
		"[0 4] nil; new 0; builtin 1; call 0 3; new 3; new 2; new 1; get 1; set 0; get 0; const 0; get 2; store; get 3; set 0; return 0;")
	checkCode(t, "local a a, a = 1", "1", "[0 3] nil; new 0; const 0; nil; new 2; new 1; get 1; set 0; get 2; set 0; return 0;")
	checkCode(t, "local a a, a = 1, 2, 3", "1 2 3",
		"[0 3] nil; new 0; const 0; const 1; const 2; pop; new 2; new 1; get 1; set 0; get 2; set 0; return 0;")
	// the further variables are gone behind the statement
	checkCode(t, "local a a, a = 1, 1 local b", "1",
		"[0 3] nil; new 0; const 0; const 0; new 2; new 1; get 1; set 0; get 2; set 0; nil; new 1; return 0;")
	// captured targets; values are come to ahead of targets
	checkCode(t, "local a, b return function() a = b end", "",
		"[0 2] nil; nil; new 1; new 0; func 1; return 1; return 0;", "[0 0 slot1 slot0] up 0; setup 1; return 0;")
	checkCode(t, "local a, b return function() a, b = 1 end", "1",
		"[0 2] nil; nil; new 1; new 0; func 1; return 1; return 0;",
		"[0 2 slot0 slot1] const 0; nil; new 1; new 0; get 0; setup 0; get 1; setup 1; return 0;")
	// an index is come to ahead of its value when there is one target, behind it when there are several
	checkCode(t, "local a, b return function() a[b] = 1 end", "1",
		"[0 2] nil; nil; new 1; new 0; func 1; return 1; return 0;", "[0 0 slot0 slot1] up 0; up 1; const 0; store; return 0;")
	checkCode(t, "local a, b return function() a[1], b[2] = b, a end", "1 2",
		"[0 2] nil; nil; new 1; new 0; func 1; return 1; return 0;",
		"[0 2 slot1 slot0] up 0; up 1; new 1; new 0; up 1; const 0; get 0; store; up 0; const 1; get 1; store; return 0;")
}

func TestCodeOfBlocks(t *testing.T) {
	checkCode(t, "do end", "", "[0 0] return 0;")
	checkCode(t, "do local a do local b end local c end local d", "",
		"[0 2] nil; new 0; nil; new 1; nil; new 1; nil; new 0; return 0;")
	checkCode(t, "if nil then print() end", "", "[0 0] nil; jumpfalse 4; builtin 0; call 0 0; return 0;")
	checkCode(t, "if nil then else end", "", "[0 0] nil; jumpfalse 3; jump 3; return 0;")
	checkCode(t, "if nil then elseif true then end", "", "[0 0] nil; jumpfalse 3; jump 5; true; jumpfalse 5; return 0;")
	checkCode(t, "if nil then print() else read() end type()", "",
		"[0 0] nil; jumpfalse 5; builtin 0; call 0 0; jump 7; builtin 1; call 0 0; builtin 3; call 0 0; return 0;")
	checkCode(t, "if nil then return elseif true then print() elseif false then read() end", "",
		"[0 0] nil; jumpfalse 4; return 0; jump 13; true; jumpfalse 9; builtin 0; call 0 0; jump 13; false; jumpfalse 13; builtin 1; call 0 0; return 0;")
	checkCode(t, "if nil then local a, b else local c end local d", "",
		"[0 2] nil; jumpfalse 7; nil; nil; new 1; new 0; jump 9; nil; new 0; nil; new 0; return 0;")
	checkCode(t, "print(1)", "1", "[0 0] builtin 0; const 0; call 1 0; return 0;")
	checkCode(t, "print()()", "", "[0 0] builtin 0; call 0 1; call 0 0; return 0;")
}

func TestCodeOfLoops(t *testing.T) {
	checkCode(t, "while nil do print() end", "", "[0 0] nil; jumpfalse 5; builtin 0; call 0 0; jump 0; return 0;")
	checkCode(t, "print() while nil do local a end local b", "",
		"[0 1] builtin 0; call 0 0; nil; jumpfalse 7; nil; new 0; jump 2; nil; new 0; return 0;")
	checkCode(t, "print() repeat print() until nil", "", "[0 0] builtin 0; call 0 0; builtin 0; call 0 0; nil; jumpfalse 2; return 0;")
	checkCode(t, "local a repeat local a until a local b", "",
		"[0 2] nil; new 0; nil; new 1; get 1; jumpfalse 2; nil; new 1; return 0;")
	checkCode(t, "for i = 5, 6 do end", "5 6 1",
		"[0 4] const 0; const 1; const 2; new 2; new 1; new 0; fortest 0 10; get 0; new 3; fornext 0 6; return 0;")
	checkCode(t, "for i = 5, 6, 7 do end", "5 6 7",
		"[0 4] const 0; const 1; const 2; new 2; new 1; new 0; fortest 0 10; get 0; new 3; fornext 0 6; return 0;")
	checkCode(t, "local a for a = a, a do local b = a end local c", "1",
		"[0 6] nil; new 0; get 0; get 0; const 0; new 3; new 2; new 1; fortest 1 14; get 1; new 4; get 4; new 5; fornext 1 8; nil; new 1; return 0;")
	checkCode(t, "for i = 1, 2 do for i = i, i do end end", "1 2",
		"[0 8] const 0; const 1; const 0; new 2; new 1; new 0; fortest 0 20; get 0; new 3; "+
			"get 3; get 3; const 0; new 6; new 5; new 4; fortest 4 19; get 4; new 7; fornext 4 15; fornext 0 6; return 0;")
	checkCode(t, "for i = read(), read(), read() do end", "",
		"[0 4] builtin 1; call 0 1; builtin 1; call 0 1; builtin 1; call 0 1; new 2; new 1; new 0; fortest 0 13; get 0; new 3; fornext 0 9; return 0;")
}

func TestCodeOfBreaks(t *testing.T) {
	checkCode(t, "while nil do break end", "", "[0 0] nil; jumpfalse 4; jump 4; jump 0; return 0;")
	checkCode(t, "repeat break until nil", "", "[0 0] jump 3; nil; jumpfalse 0; return 0;")
	checkCode(t, "for i = 1, 2 do break end", "1 2",
		"[0 4] const 0; const 1; const 0; new 2; new 1; new 0; fortest 0 11; get 0; new 3; jump 11; fornext 0 6; return 0;")
	checkCode(t, "while nil do if nil then break end do break end end", "",
		"[0 0] nil; jumpfalse 7; nil; jumpfalse 5; jump 7; jump 7; jump 0; return 0;")
	checkCode(t, "while nil do repeat break until nil break end", "",
		"[0 0] nil; jumpfalse 7; jump 5; nil; jumpfalse 2; jump 7; jump 0; return 0;")
	checkCode(t, "repeat while nil do break end if nil then break end until nil", "",
		"[0 0] nil; jumpfalse 4; jump 4; jump 0; nil; jumpfalse 7; jump 9; nil; jumpfalse 0; return 0;")
	// a loop of a function in a loop
	checkCode(t, "while function() repeat break until nil end do break end", "",
		"[0 0] func 1; jumpfalse 4; jump 4; jump 0; return 0;", "[0 0] jump 3; nil; jumpfalse 0; return 0;")
	checkCode(t, "repeat local f = function() while nil do break end end break until nil", "",
		"[0 1] func 1; new 0; jump 5; nil; jumpfalse 0; return 0;", "[0 0] nil; jumpfalse 4; jump 4; jump 0; return 0;")
	// a loop in the expression of another one's end
	checkCode(t, "repeat break until function() repeat break until nil end", "",
		"[0 0] jump 3; func 1; jumpfalse 0; return 0;", "[0 0] jump 3; nil; jumpfalse 0; return 0;")
}

func TestCodeOfReturns(t *testing.T) {
	checkCode(t, "return", "", "[0 0] return 0; return 0;")
	checkCode(t, "return 1", "1", "[0 0] const 0; return 1; return 0;")
	checkCode(t, "return read()", "", "[0 0] builtin 1; tail 0; return 0;")
	checkCode(t, "return (type(1, read()))", "1", "[0 0] builtin 3; const 0; builtin 1; call 0 1; tail 2; return 0;")
	checkCode(t, "return 1, read()", "1", "[0 0] const 0; builtin 1; call 0 1; return 2; return 0;")
	checkCode(t, "return read(), read()", "", "[0 0] builtin 1; call 0 1; builtin 1; call 0 1; return 2; return 0;")
	checkCode(t, "return not read()", "", "[0 0] builtin 1; call 0 1; not; return 1; return 0;")
	checkCode(t, "return function() return read() end", "", "[0 0] func 1; return 1; return 0;", "[0 0] builtin 1; tail 0; return 0;")
}

func TestSlotsOfShadowedNames(t *testing.T) {
	checkCode(t, "local a, a = 1, 2 return a", "1 2", "[0 2] const 0; const 1; new 1; new 0; get 1; return 1; return 0;")
	checkCode(t, "local a local a = a local a = a a = a", "",
		"[0 3] nil; new 0; get 0; new 1; get 1; new 2; get 2; set 2; return 0;")
	checkCode(t, "local a do local a = a a = a end return a", "",
		"[0 2] nil; new 0; get 0; new 1; get 1; set 1; get 0; return 1; return 0;")
	checkCode(t, "local print = print print = print", "", "[0 1] builtin 0; new 0; get 0; set 0; return 0;")
	checkCode(t, "do local print end print()", "", "[0 1] nil; new 0; builtin 0; call 0 0; return 0;")
	checkCode(t, "return function(a, b, a) return a, b end", "",
		"[0 0] func 1; return 1; return 0;", "[3 3] get 2; get 1; return 2; return 0;")
	checkCode(t, "return function(a) local a = a return a end", "",
		"[0 0] func 1; return 1; return 0;", "[1 2] get 0; new 1; get 1; return 1; return 0;")
	checkCode(t, "local function f(f) return f end return f", "",
		"[0 1] nil; new 0; func 1; set 0; get 0; return 1; return 0;", "[1 1] get 0; return 1; return 0;")
	checkCode(t, "local f local function f() return f end", "",
		"[0 2] nil; new 0; nil; new 1; func 1; set 1; return 0;", "[0 0 slot1] up 0; return 1; return 0;")
	checkCode(t, "local f local f = function() return f end", "",
		"[0 2] nil; new 0; func 1; new 1; return 0;", "[0 0 slot0] up 0; return 1; return 0;")
}

func TestCaptures(t *testing.T) {
	// each once, in the order in which they are come to
	checkCode(t, "local a, b, c return function() return c, a, c, a end", "",
		"[0 3] nil; nil; nil; new 2; new 1; new 0; func 1; return 1; return 0;",
		"[0 0 slot2 slot0] up 0; up 1; up 0; up 1; return 4; return 0;")
	// through functions in between, which use other ones of their own
	checkCode(t, "local a, b return function(c) local d = b return function() return a, c, d, b end end", "",
		"[0 2] nil; nil; new 1; new 0; func 1; return 1; return 0;",
		"[1 2 slot1 slot0] up 0; new 1; func 2; return 1; return 0;",
		"[0 0 up1 slot0 slot1 up0] up 0; up 1; up 2; up 3; return 4; return 0;")
	checkCode(t, "local a return function() return function() return function() a = a end end end", "",
		"[0 1] nil; new 0; func 1; return 1; return 0;", "[0 0 slot0] func 2; return 1; return 0;",
		"[0 0 up0] func 3; return 1; return 0;", "[0 0 up0] up 0; setup 0; return 0;")
	// two functions side by side capture on their own
	checkCode(t, "local a, b return function() return b end, function() return a, b end", "",
		"[0 2] nil; nil; new 1; new 0; func 1; func 2; return 2; return 0;",
		"[0 0 slot1] up 0; return 1; return 0;", "[0 0 slot0 slot1] up 0; up 1; return 2; return 0;")
	// variables of the same slot that come after one another, and of the same name
	checkCode(t, "do local a local f = function() return a end end local b return function() return b end", "",
		"[0 2] nil; new 0; func 1; new 1; nil; new 0; func 2; return 1; return 0;",
		"[0 0 slot0] up 0; return 1; return 0;", "[0 0 slot0] up 0; return 1; return 0;")
	checkCode(t, "local a return function() local b = a local a = b return a, function() return a end end", "",
		"[0 1] nil; new 0; func 1; return 1; return 0;",
		"[0 2 slot0] up 0; new 0; get 0; new 1; get 1; func 2; return 2; return 0;",
		"[0 0 slot1] up 0; return 1; return 0;")
	// the variable of a for, and one of a repeat in its expression
	checkCode(t, "for i = 1, 1 do local f = function() i = 1 end end", "1",
		"[0 5] const 0; const 0; const 0; new 2; new 1; new 0; fortest 0 12; get 0; new 3; func 1; new 4; fornext 0 6; return 0;",
		"[0 0 slot3] const 0; setup 0; return 0;")
	checkCode(t, "repeat local a until function() return a end", "",
		"[0 1] nil; new 0; func 1; jumpfalse 0; return 0;", "[0 0 slot0] up 0; return 1; return 0;")
	// a built-in function is not captured
	checkCode(t, "return function() return function() return print end end", "",
		"[0 0] func 1; return 1; return 0;", "[0 0] func 2; return 1; return 0;", "[0 0] builtin 0; return 1; return 0;")
	// beside further variables
	checkCode(t, "local a a, a[function() return a end] = 1", "1",
		"[0 3] nil; new 0; const 0; nil; new 2; new 1; get 1; set 0; get 0; func 1; get 2; store; return 0;",
		"[0 0 slot0] up 0; return 1; return 0;")
}

func TestNumbersOfFunctions(t *testing.T) {
	checkCode(t, "print(function() return function() end, 1 end, function() end)", "1",
		"[0 0] builtin 0; func 1; func 3; call 2 0; return 0;", "[0 0] func 2; const 0; return 2; return 0;",
		"[0 0] return 0;", "[0 0] return 0;")
	checkCode(t, "local function f() local function g() end end local function h(a) end", "",
		"[0 2] nil; new 0; func 1; set 0; nil; new 1; func 3; set 1; return 0;",
		"[0 1] nil; new 0; func 2; set 0; return 0;", "[0 0] return 0;", "[1 1] return 0;")
}

func TestConstants(t *testing.T) {
	checkCode(t, "print(1, '1', 1, '1', 0x1, \"1\", '')", `1 "1" ""`,
		"[0 0] builtin 0; const 0; const 1; const 0; const 1; const 0; const 1; const 2; call 7 0; return 0;")
	checkCode(t, "print(0, '', 0, '')", `0 ""`, "[0 0] builtin 0; const 0; const 1; const 0; const 1; call 4 0; return 0;")
	checkCode(t, "print(3, function() return 2, 3 end, 1, 2)", "3 2 1",
		"[0 0] builtin 0; const 0; func 1; const 2; const 1; call 4 0; return 0;", "[0 0] const 1; const 0; return 2; return 0;")
	checkCode(t, "print(-1, 0xffffffffffffffff)", "1 -1", "[0 0] builtin 0; const 0; neg; const 1; call 2 0; return 0;")
	checkCode(t, "print('a\\x00', 'a', 'A', 'a\\x00')", `"a\x00" "a" "A"`,
		"[0 0] builtin 0; const 0; const 1; const 2; const 0; call 4 0; return 0;")
	checkCode(t, "for i = 2, 1 do end", "2 1",
		"[0 4] const 0; const 1; const 1; new 2; new 1; new 0; fortest 0 10; get 0; new 3; fornext 0 6; return 0;")
	checkCode(t, "return {2, [1] = 3, x = 'x'}, 4", `1 2 3 "x" 4`,
		"[0 0] table; const 0; const 1; field; const 0; const 2; field; const 3; const 3; field; const 4; return 2; return 0;")
}
