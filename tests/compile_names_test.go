package tests

import (
	"fmt"
	"slices"
	"strings"
	"testing"

	"loop.example/s02245/impl"
)

func checkFree(t *testing.T, src string, want ...string) {
	t.Helper()
	tr := parsed(t, src)
	if got := toStrings(impl.FreeNames(tr)); !slices.Equal(got, want) {
		t.Errorf("FreeNames(%q): %q, want %q", src, got, want)
	}
	wantCode := impl.CodeOK
	if len(want) > 0 {
		wantCode = impl.CodeName
	}
	p, code := impl.Compile(tr)
	if code != wantCode || code != impl.CodeOK && (len(p.Consts) > 0 || len(p.Protos) > 0) {
		t.Errorf("Compile(%q): code %d, want %d", src, code, wantCode)
	}
}

func TestFreeNames(t *testing.T) {
	checkFree(t, "")
	checkFree(t, "return a", "a")
	// declared behind the use, or by the same statement
	checkFree(t, "a() local a", "a")
	checkFree(t, "local a = a", "a")
	checkFree(t, "local a local a = a")
	checkFree(t, "local a, b = b, a", "a", "b")
	checkFree(t, "a = 1 local a a = 2", "a")
	checkFree(t, "local a a = 1")
	// in a block that has ended
	checkFree(t, "do local a end return a", "a")
	checkFree(t, "do do local a end a() end", "a")
	checkFree(t, "do local a do a() end end")
	checkFree(t, "if nil then local a else a() end a()", "a")
	checkFree(t, "if nil then local a elseif a then end", "a")
	checkFree(t, "while a do local a end", "a")
	checkFree(t, "while nil do local a end a()", "a")
	checkFree(t, "for i = 1, 2 do local a end a()", "a")
	// a loop's variable
	checkFree(t, "for i = 1, 2 do i() end")
	checkFree(t, "for i = i, 2 do end", "i")
	checkFree(t, "for i = 1, i do end", "i")
	checkFree(t, "for i = 1, 2, i do end", "i")
	checkFree(t, "for i = 1, 2 do end i()", "i")
	// a repeat's condition
	checkFree(t, "repeat local a until a")
	checkFree(t, "repeat do local a end until a", "a")
	checkFree(t, "repeat local a until nil a()", "a")
	checkFree(t, "repeat local a until function() return a end")
	// a function's own body
	checkFree(t, "local f = function(x) return x end")
	checkFree(t, "local f = function(x) end x()", "x")
	checkFree(t, "local f = function() local x end x()", "x")
	checkFree(t, "local f = function() x() end local x", "x")
	checkFree(t, "local x local f = function() return function() x() end end")
	checkFree(t, "return function() return function() return x end, function(x) return y end end", "x", "y")
	// a local function and a plain local with a function
	checkFree(t, "local function f() return f end")
	checkFree(t, "local f = function() return f end", "f")
	checkFree(t, "local function f() end return f")
	checkFree(t, "f() local function f() end", "f")
	checkFree(t, "do local function f() end end f()", "f")
	checkFree(t, "local function f(a) end a()", "a")
	// built-in names
	checkFree(t, "return print, read, tostring, type, pcall, error, create, resume, yield, status")
	checkFree(t, "return prin, printf, Print, next, string, self, _ENV", "Print", "_ENV", "next", "prin", "printf", "self", "string")
	checkFree(t, "local print print = 1")
	checkFree(t, "local function yield() yield = yield end")
	// targets, fields and keys
	checkFree(t, "x = 1", "x")
	checkFree(t, "x, y.z = 1, 2", "x", "y")
	checkFree(t, "x.y = z", "x", "z")
	checkFree(t, "print.x = print.y")
	checkFree(t, "return {a = 1, [b] = c, d}", "b", "c", "d")
	checkFree(t, "return 'a'")
	// each once, ascending by their bytes
	checkFree(t, "b() a() b() a = b", "a", "b")
	checkFree(t, "return ab, a, B, _, a1, aa, aB, a", "B", "_", "a", "a1", "aB", "aa", "ab")
}

// builtinTargets assigns to one built-in function in many ways.
func builtinTargets(name string) []string {
	return []string{
		name + " = 1", name + ", " + name + " = 1", "local a a, " + name + " = 1", "local a a." + name + ", " + name + " = 1",
		"return function() " + name + " = 1 end", "do local " + name + " end " + name + " = 1", name + " = 1 local " + name,
		"while nil do if nil then " + name + " = nil end end", "local f = function(" + name + ") end " + name + " = f",
	}
}

func TestBuiltinFunctionsAreNoTargets(t *testing.T) {
	for _, name := range strings.Fields("print read tostring type pcall error create resume yield status") {
		for _, src := range builtinTargets(name) {
			tr := parsed(t, src)
			p, code := impl.Compile(tr)
			if code != impl.CodeName || len(p.Consts) > 0 || len(p.Protos) > 0 {
				t.Errorf("Compile(%q): code %d", src, code)
			}
			if free := impl.FreeNames(tr); len(free) > 0 {
				t.Errorf("FreeNames(%q): %q", src, free)
			}
			if _, code := impl.Compile(declaredAhead(tr, name)); code != impl.CodeOK {
				t.Errorf("local %s %s: code %d", name, src, code)
			}
		}
	}
}

// checkLimit compiles what is met exactly and what is one more.
func checkLimit(t *testing.T, what string, make func(n int) tree, limit int) {
	t.Helper()
	for n, want := range map[int]int{limit - 1: impl.CodeOK, limit: impl.CodeOK, limit + 1: impl.CodeLimit} {
		tr := make(n)
		if !impl.ValidTree(tr) {
			t.Errorf("%s %d: the tree is not valid", what, n)
			continue
		}
		p, code := impl.Compile(tr)
		if code != want || impl.Check(p) != (want == impl.CodeOK) || code != impl.CodeOK && len(p.Consts)+len(p.Protos) > 0 {
			t.Errorf("%s %d: code %d, want %d", what, n, code, want)
		}
		if !slices.Equal(toStrings(impl.FreeNames(tr)), nil) {
			t.Errorf("%s %d: free names", what, n)
		}
		// a name that is free or misused goes ahead of a limit
		for _, spoilt := range []string{"free = nil", "print = nil"} {
			more := slices.Concat(tree{{Kind: impl.NodeBlock, Count: tr[0].Count + 1}}, parsed(t, spoilt)[1:], tr[1:])
			if _, code := impl.Compile(more); code != impl.CodeName {
				t.Errorf("%s %d with %s: code %d", what, n, spoilt, code)
			}
		}
	}
}

func numbered(n int) []string {
	var names []string
	for i := range n {
		names = append(names, fmt.Sprintf("v%d", i))
	}
	return names
}

// locals declares n variables in as few statements as possible.
func locals(n int) []tree {
	var stats []tree
	for part := range slices.Chunk(numbered(n), impl.MaxArgs) {
		stats = append(stats, with(impl.NodeLocal, part))
	}
	return stats
}

func TestCompileLimits(t *testing.T) {
	checkLimit(t, "slots", func(n int) tree { return blockOf(locals(n)...) }, impl.MaxSlots)
	checkLimit(t, "slots in a function", func(n int) tree {
		return returnOf(with(impl.NodeFunc, numbered(50), blockOf(locals(n-50)...)))
	}, impl.MaxSlots)
	checkLimit(t, "slots of a for", func(n int) tree {
		loop := with(impl.NodeFor, []string{"i"}, of(impl.NodeNil), of(impl.NodeNil), blockOf())
		return blockOf(append(locals(n-4), loop)...)
	}, impl.MaxSlots)
	checkLimit(t, "slots of an assignment", func(n int) tree {
		stat := assignOf(repeated(3, nameOf("v0")), of(impl.NodeNil))
		return blockOf(append(locals(n-3), stat)...)
	}, impl.MaxSlots)
	checkLimit(t, "captures", func(n int) tree {
		var uses []tree
		for _, name := range numbered(n) {
			uses = append(uses, of(impl.NodeCallStat, of(impl.NodeCall, nameOf(name))))
		}
		f := with(impl.NodeFunc, nil, blockOf(append(uses, uses...)...))
		return blockOf(append(locals(n), of(impl.NodeReturn, f))...)
	}, impl.MaxUps)
	checkLimit(t, "captures on the way", func(n int) tree {
		var uses []tree
		for _, name := range numbered(n) {
			one := with(impl.NodeFunc, nil, returnOf(nameOf(name)))
			uses = append(uses, of(impl.NodeCallStat, of(impl.NodeCall, one)))
		}
		return blockOf(append(locals(n), of(impl.NodeReturn, with(impl.NodeFunc, nil, blockOf(uses...))))...)
	}, impl.MaxUps)
	checkLimit(t, "functions", func(n int) tree {
		var stats []tree
		for range n - 1 {
			stats = append(stats, of(impl.NodeCallStat, of(impl.NodeCall, with(impl.NodeFunc, nil, blockOf()))))
		}
		return blockOf(stats...)
	}, impl.MaxProtos)
	checkLimit(t, "operands", func(n int) tree {
		return returnOf(nested(n))
	}, impl.MaxOperand)
}

// nested is an expression that has at most n operands at a time: the callee of
// each call and its first arguments wait for the last one.
func nested(n int) tree {
	if n <= 51 {
		return of(impl.NodeCall, repeated(n, of(impl.NodeNil))...)
	}
	return of(impl.NodeCall, append(repeated(50, of(impl.NodeNil)), nested(n-50))...)
}

// do blocks of a hundred instructions each, so that no other limit is near
func TestCompileLimitOfCode(t *testing.T) {
	sized := func(n int) tree {
		var stats []tree
		for n--; n >= 100; n -= 100 {
			stats = append(stats, of(impl.NodeDo, blockOf(with(impl.NodeLocal, numbered(50)))))
		}
		for ; n >= 2; n -= 2 {
			stats = append(stats, of(impl.NodeDo, blockOf(with(impl.NodeLocal, []string{"a"}))))
		}
		if n == 1 {
			stats = append(stats, of(impl.NodeReturn))
		}
		return blockOf(stats...)
	}
	checkLimit(t, "instructions", sized, impl.MaxCode)
	checkLimit(t, "instructions of two functions", func(n int) tree {
		return blockOf(of(impl.NodeReturn, with(impl.NodeFunc, nil, sized(n-3))))
	}, impl.MaxCode)
}

// TestCompileOfTheLargestTrees lets no tree take long, however much it declares
// and however often names are looked for behind that.
func TestCompileOfTheLargestTrees(t *testing.T) {
	wide := with(impl.NodeLocal, numbered(50))
	use := of(impl.NodeCallStat, of(impl.NodeCall, nameOf("print")))
	tr := blockOf(append(repeated(2999, wide), repeated(1000, use)...)...)
	if _, code := impl.Compile(tr); code != impl.CodeLimit || len(impl.FreeNames(tr)) > 0 {
		t.Errorf("code %d", code)
	}
	deep := of(impl.NodeNil)
	for range impl.MaxDeep - 3 {
		deep = of(impl.NodeNot, deep)
	}
	if _, code := impl.Compile(returnOf(deep)); code != impl.CodeOK {
		t.Errorf("code %d", code)
	}
	if _, code := impl.Compile(returnOf(of(impl.NodeNot, deep))); code != impl.CodeBad {
		t.Errorf("code %d", code)
	}
}
