package tests

import (
	"fmt"
	"math/rand"
	"strings"

	"loop.example/s02245/impl"
)

// hand writes a tree as a source in one of many ways: with parentheses that are
// needed whatever the operators are, and with others that are not needed.
type hand struct {
	*rand.Rand
	strings.Builder
	parts tree
}

func writtenByHand(r *rand.Rand, t tree) string {
	h := &hand{Rand: r, parts: t}
	h.block()
	return h.String()
}

func (h *hand) put(words ...string) {
	for _, w := range words {
		h.WriteString(w)
		h.WriteString([]string{" ", "\n", " \t", " -- not read\n"}[max(0, h.Intn(12)-8)])
	}
}

func (h *hand) take() impl.Node {
	n := h.parts[0]
	h.parts = h.parts[1:]
	return n
}

func (h *hand) names(n impl.Node) {
	for i, name := range n.Names {
		if i > 0 {
			h.put(",")
		}
		h.put(string(name))
	}
}

func (h *hand) exprs(count int) {
	for i := range count {
		if i > 0 {
			h.put(",")
		}
		h.expr()
	}
}

// block writes a `;` always between statements that need one to be told apart.
func (h *hand) block() {
	n := h.take()
	for i := range n.Count {
		h.stat()
		if i < n.Count-1 || h.Intn(2) == 0 {
			h.put(";")
		}
	}
}

func (h *hand) function(n impl.Node) {
	h.put("(")
	h.names(n)
	h.put(")")
	h.block()
	h.put("end")
}

func (h *hand) stat() {
	n := h.take()
	switch n.Kind {
	case impl.NodeLocal:
		h.put("local")
		h.names(n)
		if n.Count > 0 {
			h.put("=")
			h.exprs(n.Count)
		}
	case impl.NodeLocFunc:
		h.put("local", "function")
		h.names(n)
		h.function(h.take())
	case impl.NodeAssign:
		for i := range n.N {
			if i > 0 {
				h.put(",")
			}
			h.bare()
		}
		h.put("=")
		h.exprs(n.Count - n.N)
	case impl.NodeDo:
		h.put("do")
		h.block()
		h.put("end")
	case impl.NodeWhile:
		h.put("while")
		h.expr()
		h.put("do")
		h.block()
		h.put("end")
	case impl.NodeRepeat:
		h.put("repeat")
		h.block()
		h.put("until")
		h.expr()
	case impl.NodeIf:
		h.conditions(n.Count)
	case impl.NodeFor:
		h.put("for", string(n.Names[0]), "=")
		h.exprs(n.Count - 1)
		h.put("do")
		h.block()
		h.put("end")
	case impl.NodeBreak:
		h.put("break")
	case impl.NodeReturn:
		h.put("return")
		h.exprs(n.Count)
	case impl.NodeCallStat:
		h.bare()
	}
}

func (h *hand) conditions(count int) {
	word := "if"
	for ; count >= 2; count -= 2 {
		h.put(word)
		h.expr()
		h.put("then")
		h.block()
		word = "elseif"
	}
	if count == 1 {
		h.put("else")
		h.block()
	}
	h.put("end")
}

// expr writes an expression where anything may stand.
func (h *hand) expr() {
	if h.Intn(6) == 0 {
		h.put("(")
		defer h.put(")")
	}
	h.bare()
}

// operand writes an expression where parentheses may be needed.
func (h *hand) operand(needed bool) {
	if !needed {
		h.expr()
		return
	}
	h.put("(")
	h.expr()
	h.put(")")
}

func (h *hand) object() {
	kind := h.parts[0].Kind
	h.operand(kind != impl.NodeName && kind != impl.NodeIndex && kind != impl.NodeCall)
}

func isPair(n impl.Node) bool {
	return n.Kind == impl.NodeBin || n.Kind == impl.NodeAnd || n.Kind == impl.NodeOr
}

func (h *hand) pair(n impl.Node) {
	h.operand(isPair(h.parts[0]))
	for _, o := range signLines() {
		if o.node.Kind == n.Kind && o.node.N == n.N {
			h.put(o.sign)
		}
	}
	h.operand(isPair(h.parts[0]))
}

func (h *hand) number(n int) {
	if n < 0 || h.Intn(3) == 0 {
		h.put(fmt.Sprintf([]string{"0x%x", "0X%X", "0x00%x"}[h.Intn(3)], uint64(n)))
		return
	}
	h.put(fmt.Sprintf([]string{"%d", "0%d"}[h.Intn(2)], n))
}

func (h *hand) text(s []byte) {
	if h.Intn(2) == 0 {
		h.put(string(impl.QuoteText(s)))
		return
	}
	out := "'"
	for _, c := range s {
		out += fmt.Sprintf(`\x%02X`, c)
	}
	h.put(out + "'")
}

func (h *hand) bare() {
	n := h.take()
	switch n.Kind {
	case impl.NodeNil, impl.NodeTrue, impl.NodeFalse:
		h.put([]string{"nil", "true", "false"}[n.Kind-impl.NodeNil])
	case impl.NodeInt:
		h.number(n.N)
	case impl.NodeText:
		h.text(n.Text)
	case impl.NodeName:
		h.put(string(n.Names[0]))
	case impl.NodeIndex:
		h.object()
		if key := h.parts[0]; key.Kind == impl.NodeText && modelName(key.Text) && h.Intn(2) == 0 {
			h.take()
			h.put(".", string(key.Text))
			return
		}
		h.put("[")
		h.expr()
		h.put("]")
	case impl.NodeCall:
		h.object()
		h.put("(")
		h.exprs(n.Count - 1)
		h.put(")")
	case impl.NodeFunc:
		h.put("function")
		h.function(n)
	case impl.NodeTable:
		h.fields(n.Count / 2)
	case impl.NodeBin, impl.NodeAnd, impl.NodeOr:
		h.pair(n)
	case impl.NodeNot, impl.NodeNeg:
		h.put([]string{"not", "-"}[n.Kind-impl.NodeNot])
		h.operand(isPair(h.parts[0]))
	}
}

func (h *hand) fields(count int) {
	h.put("{")
	keyless := 0
	for i := range count {
		key := h.parts[0]
		switch {
		case key.Kind == impl.NodeInt && key.N == keyless+1 && h.Intn(3) > 0:
			h.take()
			keyless++
		case key.Kind == impl.NodeText && modelName(key.Text) && h.Intn(2) == 0:
			h.take()
			h.put(string(key.Text), "=")
		default:
			h.put("[")
			h.expr()
			h.put("]", "=")
		}
		h.expr()
		if i < count-1 || h.Intn(2) == 0 {
			h.put(",")
		}
	}
	h.put("}")
}
