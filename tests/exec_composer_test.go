package tests

import (
	"fmt"
	"math/rand"
	"strings"
)

// composer writes sources by chance without coroutines in which much hangs on
// scopes, on the order in which things are done and on how many results there
// are. Most variables hold numbers, so that runs go on.
type composer struct {
	*rand.Rand
	left   int // about how many parts may still be written
	loops  int // the loops of this function around this place
	hidden int // variables that no statement writes into but the one that needs them
}

// prelude has functions that give several results, one that shows when it is
// called, tables, and four numbers.
const composerPrelude = `local a, b, c, d = 1, 2, 3, 4
local t, fs = {10, 20, x = 30}, {}
local function say(v) print('say', v) return v end
local function none() end
local function two(x, y) return y, x end
local function three(x) return x, x + 1, x + 2 end
local function f(x) return say(x) end
local g = three;
`

func (w *composer) pick(words ...string) string { return words[w.Intn(len(words))] }

func (w *composer) variable() string { return w.pick("a", "b", "c", "d") }

func (w *composer) number() string {
	w.left--
	if w.left <= 0 || w.Intn(3) == 0 {
		return w.pick(w.variable(), w.variable(), w.variable(), "0", "1", "2", "5", "-1", "t[1]", "t.x")
	}
	switch w.Intn(12) {
	case 0, 1:
		return "say(" + w.number() + ")"
	case 2:
		return "(" + w.condition() + " and " + w.number() + " or " + w.number() + ")"
	case 3:
		return w.call()
	case 4:
		return "-" + w.pick(w.variable(), "("+w.number()+")")
	case 5:
		return "t[" + w.number() + "]"
	case 6, 7:
		return w.number() + w.pick(" + ", " - ", " * ", " // ", " % ") + w.number()
	case 8:
		return w.number() + w.pick(" or ", " and ") + w.number()
	}
	return "(" + w.number() + w.pick(" + ", " - ", " * ") + w.number() + ")"
}

func (w *composer) condition() string {
	switch w.Intn(6) {
	case 0:
		return "not (" + w.condition() + ")"
	case 1:
		return "(" + w.condition() + w.pick(" and ", " or ") + w.condition() + ")"
	case 2:
		return w.pick("true", "false", "false", "nil", "none()", w.variable())
	}
	return w.number() + w.pick(" < ", " <= ", " > ", " >= ", " == ", " ~= ") + w.number()
}

func (w *composer) any() string {
	switch w.Intn(12) {
	case 0:
		return w.function()
	case 1:
		return "{" + w.number() + ", " + w.pick("x = ", "", "["+w.number()+"] = ") + w.any() + "}"
	case 2:
		return w.condition()
	case 3:
		return w.pick("nil", "'s'", "'s' .. "+w.any(), w.number()+" .. "+w.number(), "tostring("+w.number()+")", "t", "f", "fs")
	}
	return w.number()
}

func (w *composer) list(low, high int, part func() string) string {
	var parts []string
	for range low + w.Intn(high-low+1) {
		parts = append(parts, part())
	}
	return strings.Join(parts, ", ")
}

// exprs is a list that ends with a call more often than not.
func (w *composer) exprs() string {
	if w.Intn(2) == 0 {
		return w.list(1, 3, w.any)
	}
	before := w.list(0, 2, w.any)
	if before != "" {
		before += ", "
	}
	return before + w.call()
}

func (w *composer) call() string {
	switch w.Intn(8) {
	case 0:
		return w.pick("none", "print", "tostring", "type", "read") + "(" + w.list(0, 2, w.number) + ")"
	case 1:
		return "fs[" + w.pick("1", "2", "3", w.number()) + "](" + w.list(0, 2, w.number) + ")"
	case 2:
		return "(" + w.function() + ")(" + w.list(0, 3, w.any) + ")"
	case 3:
		return "pcall(" + w.pick("f", "g", "error", w.function(), w.any()) + ", " + w.any() + ")"
	}
	return w.pick("two", "two", "three", "three", "say", "f", "g") + "(" + w.list(0, 3, w.number) + ")"
}

func (w *composer) function() string {
	return "function(" + w.pick("", "a", "b", "a, b", "c, c", "x") + ") " + w.body(2) + " end"
}

// body is the block of a function; a break can't leave the loops around that.
func (w *composer) body(most int) string {
	around := w.loops
	w.loops = 0
	defer func() { w.loops = around }()
	return w.block(most) + w.pick("", " return "+w.exprs(), " return "+w.call())
}

func (w *composer) target() string {
	if w.Intn(3) == 0 {
		return w.pick("t", "t", "fs") + w.pick(".x", ".y", "["+w.number()+"]", "["+w.number()+"]")
	}
	return w.variable()
}

// block is some statements, and a break at the end where it may stand.
func (w *composer) block(most int) string {
	var out []string
	for range w.Intn(most + 1) {
		if w.left > 0 {
			out = append(out, w.stat())
		}
	}
	if w.loops > 0 && w.Intn(2) == 0 {
		out = append(out, "if "+w.condition()+" then "+w.pick("", w.call()+"; ")+"break end")
	}
	return strings.Join(out, " ")
}

// rounds writes the block of a loop.
func (w *composer) rounds() string {
	w.loops++
	defer func() { w.loops-- }()
	return w.block(3)
}

// counter is a variable of which nothing else makes use.
func (w *composer) counter() string {
	w.hidden++
	return fmt.Sprint("k", w.hidden)
}

func (w *composer) stat() string {
	w.left--
	switch w.Intn(16) {
	case 0:
		return "local " + w.list(1, 3, w.variable) + w.pick(" = "+w.exprs(), " = "+w.exprs(), " = "+w.exprs(), "") + ";"
	case 1, 2:
		return w.target() + " = " + w.exprs() + ";"
	case 3, 4:
		return w.list(2, 4, w.target) + " = " + w.exprs() + ";"
	case 5:
		return "fs[" + w.pick("1", "2", "3") + "] = " + w.function() + ";"
	case 6:
		return "local function " + w.pick("f", "g", "f", "g", "a") + "(" + w.pick("", "a", "b, c", "d") + ") " + w.body(2) + " end;"
	case 7:
		return "do " + w.block(3) + " end;"
	case 8:
		return "if " + w.condition() + " then " + w.block(2) + w.pick("", " else "+w.block(2), " elseif "+w.condition()+" then "+w.block(2), " elseif "+w.condition()+" then "+w.block(2)+" else "+w.block(2)) + " end;"
	case 9, 10:
		return fmt.Sprintf("for %s = %s, %s do %s end;", w.variable(), w.pick("1", "3", w.number()), w.pick("3", "1, -1", "5, 2", w.number(), w.number()+", "+w.number()), w.rounds())
	case 11:
		k := w.counter()
		return "do local " + k + " = 0 while " + k + " < 3 and " + w.pick("true", w.condition()) + " do " + k + " = " + k + " + 1; " + w.rounds() + " end end;"
	case 12:
		k, a := w.counter(), w.variable()
		return "do local " + k + " = 0 repeat " + k + " = " + k + " + 1; local " + a + " = " + w.number() + "; " + w.rounds() + " until " + k + " > 2 or " + w.pick(a+" == "+w.number(), w.condition()) + " end;"
	case 13:
		return "print(" + w.list(1, 4, w.any) + ");"
	case 14:
		if w.Intn(3) == 0 {
			return "error(" + w.any() + ");"
		}
		return w.guarded()
	}
	return w.call() + ";"
}

func (w *composer) guarded() string {
	return "do local ok, e = pcall(function() " + w.body(4) + " end) print(ok, e) end;"
}

// composed is a source whose statements stand under guards, half of them.
func composed(r *rand.Rand) string {
	w := &composer{Rand: r}
	src := composerPrelude
	for range 2 + r.Intn(8) {
		w.left = 20 + r.Intn(150)
		part := w.guarded()
		if w.Intn(2) == 0 {
			part = w.stat()
		}
		if part += "\nprint(a, b, c, d, t[1], t[2], t.x);\n"; len(src)+len(part) < 5000 {
			src += part
		}
	}
	return src
}
