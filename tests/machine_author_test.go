package tests

import (
	"fmt"
	"math/rand"
	"strings"

	"loop.example/s02245/impl"
)

// author writes sources by chance that do a good deal when they are run: values
// are of the kind that is needed, more often than not.
type author struct {
	*rand.Rand
	left int  // about how many parts may still be written
	calm bool // nothing yields but what the prelude has
}

// prelude declares a variable or two of each kind: n and m numbers, s and u
// texts, t and w tables, f, g and h functions, c and d coroutines, x and y
// anything. What yields in it is seen by none but the coroutine.
func (a *author) prelude() string {
	return "local n, m, s, u, t, w, x, y = 3, -2, 'ab', '', {1, 2, x = 'y'}, {}\n" +
		"local f, g, h = function(a, b) return b, a end, function(a) print('g', a) return a end, print\n" +
		"local c, d = create(function(a) while true do a = yield(a) end end), create(g);\n"
}

func (a *author) pick(words ...string) string { return words[a.Intn(len(words))] }

// expr writes an expression of a kind, now and then of another one.
func (a *author) expr(kind string) string {
	a.left--
	if kind == "any" || a.Intn(12) == 0 {
		kind = a.pick("num", "num", "num", "text", "text", "bool", "table", "func", "co", "any")
	}
	if a.left <= 0 || a.Intn(5) < 2 {
		return a.leaf(kind)
	}
	switch kind {
	case "num":
		if a.Intn(4) == 0 {
			return "-(" + a.expr("num") + ")"
		}
		return "(" + a.expr("num") + a.pick(" + ", " - ", " * ", " // ", " % ") + a.expr("num") + ")"
	case "text":
		return a.text()
	case "bool":
		return a.condition()
	case "table":
		var fields []string
		for range a.Intn(4) {
			fields = append(fields, a.pick("", "", "x = ", "["+a.expr("any")+"] = ")+a.expr("any"))
		}
		return "{" + strings.Join(fields, ", ") + "}"
	case "func":
		return "function(" + a.pick("", "x", "x, y", "n", "n, x") + ") " + a.block() + " end"
	case "co":
		return "create(" + a.expr("func") + ")"
	}
	return a.pick("x", "y", "t.x", "w[n]", "t[1]", "t[m]")
}

func (a *author) leaf(kind string) string {
	switch kind {
	case "num":
		return a.pick("n", "m", "0", "1", "2", "7", "-1", "0x7fffffffffffffff", "0x8000000000000000")
	case "text":
		return a.pick("s", "u", "''", "'b'", "'x'", "'10'")
	case "bool":
		return a.pick("true", "false", "nil")
	case "table":
		return a.pick("t", "w", "{}")
	case "func":
		words := []string{"f", "g", "h", "f", "g", "h", "print", "read", "tostring", "type", "pcall", "error", "create", "resume", "status"}
		if !a.calm {
			words = append(words, "yield", "yield")
		}
		return a.pick(words...)
	case "co":
		return a.pick("c", "d")
	}
	return a.pick("x", "y", "nil")
}

func (a *author) text() string {
	switch a.Intn(4) {
	case 0:
		return a.pick("tostring", "type") + "(" + a.expr("any") + ")"
	case 1:
		return "status(" + a.expr("co") + ")"
	}
	return "(" + a.expr(a.pick("text", "num")) + " .. " + a.expr(a.pick("text", "num")) + ")"
}

func (a *author) condition() string {
	switch a.Intn(4) {
	case 0:
		return "not " + a.expr("any")
	case 1:
		return "(" + a.expr("any") + a.pick(" and ", " or ") + a.expr("any") + ")"
	case 2:
		return "(" + a.expr("any") + a.pick(" == ", " ~= ") + a.expr("any") + ")"
	}
	kind := a.pick("num", "num", "text")
	return "(" + a.expr(kind) + a.pick(" < ", " <= ", " > ", " >= ") + a.expr(kind) + ")"
}

func (a *author) call() string {
	switch a.Intn(6) {
	case 0, 1:
		return "pcall(" + a.expr("func") + ", " + a.expr("any") + ")"
	case 2:
		return "resume(" + a.pick("c", "d", a.expr("co")) + ", " + a.expr("any") + ")"
	case 3:
		if !a.calm {
			return "yield(" + a.expr("any") + ")"
		}
	}
	var args []string
	for range a.Intn(4) {
		args = append(args, a.expr("any"))
	}
	return a.pick("f", "g", "h", "f", "g", "h", "print", "("+a.expr("func")+")", a.pick("x", "y", "t.x", a.leaf("func"))) + "(" + strings.Join(args, ", ") + ")"
}

func (a *author) block() string {
	var out []string
	for a.left > 0 && a.Intn(4) > 0 {
		out = append(out, a.stat())
	}
	switch a.Intn(5) {
	case 0:
		out = append(out, "return "+a.call())
	case 1:
		out = append(out, "return "+a.expr("any")+a.pick("", ", "+a.expr("any"), ", "+a.call()))
	}
	return strings.Join(out, " ")
}

func (a *author) stat() string {
	a.left--
	kinds := map[string]string{"n": "num", "m": "num", "s": "text", "u": "text", "t": "table", "w": "table", "f": "func", "g": "func", "h": "func", "c": "co", "d": "co", "x": "any", "y": "any"}
	name := a.pick("n", "m", "s", "u", "t", "w", "f", "g", "h", "c", "d", "x", "y")
	switch a.Intn(15) {
	case 0:
		return "local " + name + " = " + a.expr(kinds[name]) + ";"
	case 1, 2:
		return name + " = " + a.expr(kinds[name]) + ";"
	case 3, 4:
		return "x, y = " + a.call() + " print(x, y);"
	case 5:
		return "x, t.x, y = " + a.expr("any") + ", " + a.call() + ";"
	case 6:
		return a.pick("t", "w", "t", "w", "x") + "[" + a.expr("any") + "] = " + a.expr("any") + ";"
	case 7:
		return "print(" + a.expr("any") + ", " + a.call() + ");"
	case 8:
		return "if " + a.expr("bool") + " then " + a.block() + a.pick("", " else "+a.block(), " elseif "+a.expr("bool")+" then "+a.block()) + " end;"
	case 9:
		return fmt.Sprintf("for i = %s, %s, %s do n = i; %s end;", a.pick("1", "n", "-1"), a.pick("2", "3", "m", a.expr("num")), a.pick("1", "2", "-1", a.expr("num")), a.block())
	case 10:
		return "do local k = 0; while k < 3 do k = k + 1; " + a.block() + " end end;"
	case 11:
		return "do local k = 0; repeat local l = k; k = k + 1; " + a.block() + " until l > 1 end;"
	case 12:
		if a.Intn(4) == 0 {
			return "error(" + a.expr("any") + ");"
		}
	case 13:
		again := a.pick("x, y = f(n - 1);", "x, y = pcall(f, n - 1);", "x, y = resume(create(f), n - 1);", "do return f(n - 1) end", "do return pcall(f, n - 1) end")
		return "do local function f(n) if n > 0 then " + again + " end " + a.block() + " end x, y = f(6) print(x, y) end;"
	}
	return a.call() + ";"
}

// authored answers a source by chance that can be compiled, with its program.
func authored(r *rand.Rand, write func(a *author) string) (string, impl.Program) {
	for {
		a := &author{Rand: r, left: 10 + r.Intn(150)}
		src := write(a)
		tr, code, _ := impl.Parse([]byte(src))
		if code == impl.CodeLimit {
			continue
		}
		p, compiles := impl.Compile(tr)
		if code != impl.CodeOK || compiles == impl.CodeName || compiles == impl.CodeBad {
			panic(src)
		}
		if compiles == impl.CodeOK {
			return src, p
		}
	}
}

// story is the prelude and statements, the first ones under guards.
func (a *author) story() string {
	src := a.prelude()
	for a.left > 0 {
		if a.Intn(3) > 0 {
			src += "x, y = pcall(function() " + a.block() + " end) print(x, y);\n"
		} else {
			src += a.stat() + "\n"
		}
	}
	return src
}
