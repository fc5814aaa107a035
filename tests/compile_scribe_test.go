package tests

import (
	"bytes"
	"maps"
	"math/rand"
	"slices"
	"testing"

	"loop.example/s02245/impl"
)

func (s *scribe) stat() {
	n := s.take()
	seen := len(s.visible)
	switch n.Kind {
	case impl.NodeLocal:
		s.values(len(n.Names), n.Count)
		var names []string
		for _, name := range n.Names {
			names = append(names, string(name))
		}
		s.addAll(names...)
		return
	case impl.NodeLocFunc:
		s.put(impl.InsNil)
		slot := s.addAll(string(n.Names[0]))[0]
		s.expr()
		s.put(impl.InsSet, slot)
		return
	case impl.NodeAssign:
		s.assign(n)
	case impl.NodeDo:
		s.block()
	case impl.NodeWhile, impl.NodeRepeat, impl.NodeFor:
		s.loop(n)
	case impl.NodeIf:
		s.conditions(n.Count)
	case impl.NodeBreak:
		s.jump(s.behind[len(s.behind)-1], impl.InsJump)
	case impl.NodeReturn:
		if n.Count == 1 && s.rest[0].Kind == impl.NodeCall {
			count := s.take().Count
			s.exprs(count)
			s.put(impl.InsTail, count-1)
		} else {
			s.exprs(n.Count)
			s.put(impl.InsReturn, n.Count)
		}
	case impl.NodeCallStat:
		count := s.take().Count
		s.exprs(count)
		s.put(impl.InsCall, count-1, 0)
	}
	s.visible = s.visible[:seen]
}

// at writes with do what stands at another place of the tree, and comes back.
func (s *scribe) at(rest tree, do func()) tree {
	back := s.rest
	s.rest = rest
	do()
	rest, s.rest = s.rest, back
	return rest
}

func (s *scribe) assign(n impl.Node) {
	targets := s.rest
	for range n.N {
		s.rest = skipped(s.rest)
	}
	values := func(count int) { s.values(count, n.Count-n.N) }
	if n.N == 1 {
		s.target(targets, func() { values(1) })
		return
	}
	values(n.N)
	for _, slot := range s.addAll(make([]string, n.N)...) {
		targets = s.target(targets, func() { s.put(impl.InsGet, slot) })
	}
}

// target writes an assignment to the target with which a list begins, and
// answers what stands behind it.
func (s *scribe) target(list tree, value func()) tree {
	if list[0].Kind == impl.NodeName {
		value()
		s.setName(string(list[0].Names[0]))
		return list[1:]
	}
	list = s.at(list[1:], func() { s.exprs(2) })
	value()
	s.put(impl.InsStore)
	return list
}

// skipped answers what stands behind the first node and all below it.
func skipped(t tree) tree {
	for left := 1; left > 0; left-- {
		left += t[0].Count
		t = t[1:]
	}
	return t
}

func (s *scribe) loop(n impl.Node) {
	begin, behind := new(int), new(int)
	s.behind = append(s.behind, behind)
	switch n.Kind {
	case impl.NodeWhile:
		s.place(begin)
		s.expr()
		s.jump(behind, impl.InsJumpFalse)
		s.block()
		s.jump(begin, impl.InsJump)
	case impl.NodeRepeat:
		s.place(begin)
		s.statements()
		s.expr()
		s.jump(begin, impl.InsJumpFalse)
	case impl.NodeFor:
		s.exprs(n.Count - 1)
		if n.Count == 3 {
			s.constant(impl.Const{N: 1})
		}
		first := s.addAll("", "", "")[0]
		s.place(begin)
		s.jump(behind, impl.InsForTest, first)
		s.put(impl.InsGet, first)
		s.addAll(string(n.Names[0]))
		s.block()
		s.jump(begin, impl.InsForNext, first)
	}
	s.place(behind)
	s.behind = s.behind[:len(s.behind)-1]
}

func (s *scribe) conditions(parts int) {
	behind := new(int)
	for ; parts >= 2; parts -= 2 {
		next := new(int)
		s.expr()
		s.jump(next, impl.InsJumpFalse)
		s.block()
		if parts > 2 {
			s.jump(behind, impl.InsJump)
		}
		s.place(next)
	}
	if parts == 1 {
		s.block()
	}
	s.place(behind)
}

func (s *scribe) expr() {
	n := s.take()
	simple := map[int]int{
		impl.NodeNil: impl.InsNil, impl.NodeTrue: impl.InsTrue, impl.NodeFalse: impl.InsFalse,
		impl.NodeIndex: impl.InsIndex, impl.NodeNot: impl.InsNot, impl.NodeNeg: impl.InsNeg,
	}
	switch n.Kind {
	case impl.NodeInt:
		s.constant(impl.Const{N: n.N})
	case impl.NodeText:
		s.constant(impl.Const{IsText: true, Text: n.Text})
	case impl.NodeName:
		s.name(string(n.Names[0]))
	case impl.NodeCall:
		s.exprs(n.Count)
		s.put(impl.InsCall, n.Count-1, 1)
	case impl.NodeFunc:
		s.put(impl.InsFunc, s.inner(n))
	case impl.NodeTable:
		s.put(impl.InsTable)
		for range n.Count / 2 {
			s.exprs(2)
			s.put(impl.InsField)
		}
	case impl.NodeBin:
		s.exprs(2)
		s.put(impl.InsBin, n.N)
	case impl.NodeAnd, impl.NodeOr:
		behind := new(int)
		s.expr()
		s.jump(behind, impl.InsAnd+n.Kind-impl.NodeAnd)
		s.expr()
		s.place(behind)
	default:
		s.exprs(n.Count)
		s.put(simple[n.Kind])
	}
}

// inner writes a function with no loop around it.
func (s *scribe) inner(n impl.Node) int {
	around := s.behind
	s.behind = nil
	number := s.function(n.Names)
	s.behind = around
	return number
}

// names answers the free names in order.
func (s *scribe) names() []string {
	return slices.Sorted(maps.Keys(s.free))
}

// TestCompileLikeTheModel holds Compile and FreeNames against the model, for
// trees with few names left free and for trees as they come.
func TestCompileLikeTheModel(t *testing.T) {
	r := rand.New(rand.NewSource(5))
	codes := map[int]int{}
	for i := range 2500 {
		tr := randomTree(r, 1+r.Intn(150))
		if i%4 > 0 {
			tr = declaredAhead(tr, "a", "b", "f", "_", "x1", "ends", "Not", "nil_")
		}
		if i%4 > 1 {
			tr = declaredAhead(tr, "print")
		}
		if i%4 == 3 {
			tr = underFunction(tr)
		}
		model := scribed(tr)
		want := impl.CodeOK
		if len(model.free) > 0 || model.misused {
			want = impl.CodeName
		}
		given := copyTree(tr)
		p, code := impl.Compile(given)
		codes[code]++
		if code != want {
			t.Fatalf("Compile(%s): code %d, want %d", impl.PrintTree(tr), code, want)
		}
		if code == impl.CodeOK && (!sameProgram(p, model.program()) || !impl.Check(p)) {
			t.Fatalf("Compile(%s):\n%swant\n%s", impl.PrintTree(tr), listed(p), listed(model.program()))
		}
		free := impl.FreeNames(given)
		if !slices.Equal(toStrings(free), model.names()) {
			t.Fatalf("FreeNames(%s): %q, want %q", impl.PrintTree(tr), free, model.names())
		}
		if !sameTree(given, tr) {
			t.Fatalf("the tree %s was written into", show(tr))
		}
	}
	if codes[impl.CodeOK] < 400 || codes[impl.CodeName] < 400 {
		t.Errorf("the trees are not mixed: %v", codes)
	}
}

func toStrings(list [][]byte) []string {
	var out []string
	for _, b := range list {
		out = append(out, string(b))
	}
	return out
}

// declaredAhead puts a local statement for the names ahead of a tree.
func declaredAhead(t tree, names ...string) tree {
	out := slices.Concat(tree{{Kind: impl.NodeBlock, Count: t[0].Count + 1}}, with(impl.NodeLocal, names), t[1:])
	return out
}

// underFunction makes a tree the block of a function in two others.
func underFunction(t tree) tree {
	for range 3 {
		t = returnOf(with(impl.NodeFunc, []string{"p"}, t))
	}
	return t
}

func TestCompileKeepsNothing(t *testing.T) {
	src := "local a, b = 'x', 'y' return function() return a, b, 'x', 5, function() return b end end, free1, free2"
	tr := parsed(t, src)
	names := impl.FreeNames(tr)
	p, _ := impl.Compile(declaredAhead(tr, "free1", "free2"))
	want := copyProgram(p)
	for _, n := range tr {
		for _, name := range append(slices.Clone(n.Names), n.Text) {
			spoil(name)
		}
	}
	if !sameProgram(p, want) || !slices.Equal(toStrings(names), []string{"free1", "free2"}) {
		t.Errorf("an answer shares memory with the tree")
	}
	again, _ := impl.Compile(declaredAhead(parsed(t, src), "free1", "free2"))
	spoilProgram(p)
	if !sameProgram(again, want) {
		t.Errorf("two answers share memory")
	}
	for i := range p.Protos {
		p.Protos[i].Captures = append(p.Protos[i].Captures, impl.Capture{Index: 77})
		p.Protos[i].Code = append(p.Protos[i].Code, impl.Ins{Op: 77})
	}
	for i, c := range p.Consts {
		p.Consts[i].Text = append(c.Text, "behind"...)
	}
	for i := range p.Protos {
		if len(p.Protos[i].Captures) != len(want.Protos[i].Captures)+1 || p.Protos[i].Code[len(want.Protos[i].Code)].Op != 77 {
			t.Errorf("two lists of one answer share memory")
		}
	}
}

func spoilProgram(p impl.Program) {
	for i := range p.Consts {
		spoil(p.Consts[i].Text)
		p.Consts[i].N++
	}
	for _, f := range p.Protos {
		for i := range f.Code {
			f.Code[i].A++
		}
		for i := range f.Captures {
			f.Captures[i].Index++
		}
	}
}

func TestCompileRefusesTreesThatAreNotValid(t *testing.T) {
	bad := []tree{
		nil, {}, {{Kind: impl.NodeBreak}}, {{Kind: impl.NodeNil}}, {{Kind: -1}}, {{Kind: 27}},
		{{Kind: impl.NodeBlock, Count: 1}}, {{Kind: impl.NodeBlock, Count: -1}}, {{Kind: impl.NodeBlock, N: 1}},
		{{Kind: impl.NodeBlock}, {Kind: impl.NodeBlock}}, blockOf(of(impl.NodeBreak)), blockOf(nameOf("a")),
		returnOf(nameOf("end")), returnOf(nameOf("")), blockOf(with(impl.NodeLocal, nil)),
		returnOf(repeated(impl.MaxArgs+1, of(impl.NodeNil))...), blockOf(repeated(impl.MaxNodes, of(impl.NodeDo, blockOf()))...),
		// what is free or misused or too much beside it does not count
		blockOf(of(impl.NodeBreak), of(impl.NodeReturn, nameOf("free"))),
		blockOf(append(repeated(201, with(impl.NodeLocal, []string{"a"})), of(impl.NodeBreak))...),
	}
	for _, tr := range bad {
		if names := impl.FreeNames(tr); len(names) > 0 {
			t.Errorf("FreeNames(%.200s): %q", show(tr), names)
		}
		if p, code := impl.Compile(tr); code != impl.CodeBad || len(p.Consts) > 0 || len(p.Protos) > 0 {
			t.Errorf("Compile(%.200s): code %d", show(tr), code)
		}
	}
	r := rand.New(rand.NewSource(6))
	for range 2000 {
		tr := copyTree(randomTree(r, 30))
		n := &tr[r.Intn(len(tr))]
		switch r.Intn(4) {
		case 0:
			n.Kind = r.Intn(30) - 1
		case 1:
			n.Count += r.Intn(3) - 1
		case 2:
			n.Names = append(n.Names, []byte("a"))
		case 3:
			n.N += r.Intn(5) - 2
		}
		_, code := impl.Compile(tr)
		if (code == impl.CodeBad) == impl.ValidTree(tr) || !impl.ValidTree(tr) && len(impl.FreeNames(tr)) > 0 {
			t.Fatalf("Compile(%s): code %d, valid %v", show(tr), code, impl.ValidTree(tr))
		}
	}
}

func TestFreeNamesDeclaredAheadLeaveNone(t *testing.T) {
	r := rand.New(rand.NewSource(7))
	some := 0
	for range 2000 {
		tr := randomTree(r, 1+r.Intn(100))
		free := impl.FreeNames(tr)
		if !slices.IsSortedFunc(free, bytes.Compare) {
			t.Fatalf("FreeNames(%s): %q", impl.PrintTree(tr), free)
		}
		if len(free) == 0 {
			continue
		}
		some++
		for i := range free {
			rest := declaredAhead(tr, toStrings(slices.Delete(slices.Clone(free), i, i+1))...)
			if len(free) > 1 && !slices.Equal(toStrings(impl.FreeNames(rest)), []string{string(free[i])}) {
				t.Fatalf("without %s, FreeNames(%s): %q", free[i], impl.PrintTree(rest), impl.FreeNames(rest))
			}
		}
		tr = declaredAhead(tr, toStrings(free)...)
		if left := impl.FreeNames(tr); len(left) > 0 {
			t.Fatalf("FreeNames(%s): %q", impl.PrintTree(tr), left)
		}
	}
	if some < 500 {
		t.Errorf("only %d trees had free names", some)
	}
}
