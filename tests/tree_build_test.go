package tests

import (
	"bytes"
	"fmt"
	"math/rand"
	"slices"
	"strings"

	"loop.example/s02245/impl"
)

// tree is a list of nodes in preorder that is put together from its parts.
type tree = []impl.Node

func join(n impl.Node, parts ...tree) tree {
	n.Count = len(parts)
	return append(tree{n}, slices.Concat(parts...)...)
}

func of(kind int, parts ...tree) tree {
	return join(impl.Node{Kind: kind}, parts...)
}

func namesOf(words ...string) [][]byte {
	var out [][]byte
	for _, w := range words {
		out = append(out, []byte(w))
	}
	return out
}

func with(kind int, names []string, parts ...tree) tree {
	return join(impl.Node{Kind: kind, Names: namesOf(names...)}, parts...)
}

func nameOf(s string) tree { return with(impl.NodeName, []string{s}) }

func textOf(s string) tree { return tree{{Kind: impl.NodeText, Text: []byte(s)}} }

func intOf(n int) tree { return tree{{Kind: impl.NodeInt, N: n}} }

func binOf(op int, x, y tree) tree { return join(impl.Node{Kind: impl.NodeBin, N: op}, x, y) }

func blockOf(stats ...tree) tree { return of(impl.NodeBlock, stats...) }

func returnOf(values ...tree) tree { return blockOf(of(impl.NodeReturn, values...)) }

func assignOf(targets []tree, values ...tree) tree {
	return join(impl.Node{Kind: impl.NodeAssign, N: len(targets)}, append(slices.Clone(targets), values...)...)
}

func repeated(n int, part tree) []tree {
	var out []tree
	for range n {
		out = append(out, part)
	}
	return out
}

func sameNode(a, b impl.Node) bool {
	return a.Kind == b.Kind && a.N == b.N && a.Count == b.Count && bytes.Equal(a.Text, b.Text) &&
		slices.EqualFunc(a.Names, b.Names, bytes.Equal)
}

func sameTree(a, b tree) bool {
	return slices.EqualFunc(a, b, sameNode)
}

func copyTree(t tree) tree {
	out := slices.Clone(t)
	for i, n := range out {
		out[i].Text = bytes.Clone(n.Text)
		out[i].Names = nil
		for _, name := range n.Names {
			out[i].Names = append(out[i].Names, bytes.Clone(name))
		}
	}
	return out
}

func show(t tree) string {
	var b strings.Builder
	for _, n := range t {
		fmt.Fprintf(&b, "{%d n%d %q %q x%d}", n.Kind, n.N, n.Text, n.Names, n.Count)
	}
	return b.String()
}

// gardener makes valid trees of all kinds of nodes by chance.
type gardener struct {
	*rand.Rand
	left   int // about how many nodes may still be made
	looped bool
}

func randomTree(r *rand.Rand, size int) tree {
	g := &gardener{Rand: r, left: size}
	return g.block(false)
}

func (g *gardener) word() string {
	words := []string{"a", "b", "f", "_", "x1", "ends", "Not", "nil_", "print"}
	return words[g.Intn(len(words))]
}

func (g *gardener) words(low, high int) []string {
	var out []string
	for range low + g.Intn(high-low+1) {
		out = append(out, g.word())
	}
	return out
}

func (g *gardener) exprs(low, high int) []tree {
	var out []tree
	for range low + g.Intn(high-low+1) {
		out = append(out, g.expr())
	}
	return out
}

func (g *gardener) block(looped bool) tree {
	around := g.looped
	g.looped = looped
	defer func() { g.looped = around }()
	var stats []tree
	for g.left > 0 && g.Intn(4) > 0 {
		stats = append(stats, g.stat())
	}
	switch g.Intn(4) {
	case 0:
		stats = append(stats, of(impl.NodeReturn, g.exprs(0, 2)...))
	case 1:
		if looped {
			stats = append(stats, of(impl.NodeBreak))
		}
	}
	return blockOf(stats...)
}

func (g *gardener) function() tree {
	params := g.words(0, 2)
	return with(impl.NodeFunc, params, g.block(false))
}

func (g *gardener) stat() tree {
	g.left--
	switch g.Intn(9) {
	case 0:
		return with(impl.NodeLocal, g.words(1, 3), g.exprs(0, 3)...)
	case 1:
		return with(impl.NodeLocFunc, g.words(1, 1), g.function())
	case 2:
		return of(impl.NodeDo, g.block(g.looped))
	case 3:
		return of(impl.NodeWhile, g.expr(), g.block(true))
	case 4:
		return of(impl.NodeRepeat, g.block(true), g.expr())
	case 5:
		var parts []tree
		for range 1 + g.Intn(2) {
			parts = append(parts, g.expr(), g.block(g.looped))
		}
		if g.Intn(2) == 0 {
			parts = append(parts, g.block(g.looped))
		}
		return of(impl.NodeIf, parts...)
	case 6:
		return with(impl.NodeFor, g.words(1, 1), append(g.exprs(2, 3), g.block(true))...)
	case 7:
		return of(impl.NodeCallStat, of(impl.NodeCall, g.exprs(1, 3)...))
	}
	var targets []tree
	for range 1 + g.Intn(3) {
		targets = append(targets, g.target())
	}
	return assignOf(targets, g.exprs(1, 3)...)
}

func (g *gardener) target() tree {
	if g.Intn(2) == 0 {
		return nameOf(g.word())
	}
	return of(impl.NodeIndex, g.exprs(2, 2)...)
}

func (g *gardener) leaf() tree {
	numbers := []int{0, 1, 2, 3, 10, 1<<63 - 1, -1, -2, -1 << 63}
	texts := []string{"", "a", "x1", "end", "1", "a b", "\n\x00\xff\"\\'", "f"}
	switch g.Intn(6) {
	case 0:
		return of(impl.NodeNil + g.Intn(3))
	case 1, 2:
		return intOf(numbers[g.Intn(len(numbers))])
	case 3:
		return textOf(texts[g.Intn(len(texts))])
	}
	return nameOf(g.word())
}

func (g *gardener) expr() tree {
	g.left--
	if g.left <= 0 {
		return g.leaf()
	}
	switch g.Intn(12) {
	case 0, 1:
		return binOf(g.Intn(12), g.expr(), g.expr())
	case 2:
		return of(impl.NodeAnd+g.Intn(2), g.expr(), g.expr())
	case 3, 4:
		return of(impl.NodeNot+g.Intn(2), g.expr())
	case 5:
		return of(impl.NodeIndex, g.exprs(2, 2)...)
	case 6:
		return of(impl.NodeCall, g.exprs(1, 3)...)
	case 7:
		return g.function()
	case 8:
		var parts []tree
		for range g.Intn(4) {
			parts = append(parts, g.key(len(parts)/2), g.expr())
		}
		return of(impl.NodeTable, parts...)
	}
	return g.leaf()
}

// key leans to numbers about the one that a field without a key would get.
func (g *gardener) key(before int) tree {
	if g.Intn(3) > 0 {
		return intOf(before + g.Intn(3))
	}
	return g.expr()
}
