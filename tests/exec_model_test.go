package tests

import (
	"math"
	"strings"

	"loop.example/s02245/impl"
)

// teller tells what a source means by going through its tree, with neither code
// nor slots: a variable is found by its name among those declared before it, and
// a function keeps all that were visible where it stands. Of the walker it has
// the built-in functions.
type teller struct {
	*walker
	told map[int]int // how often each kind of node was come to
}

// branch is a node with all that is below it.
type branch struct {
	impl.Node
	below []*branch
}

func grown(t tree) *branch {
	rest := t
	var grow func() *branch
	grow = func() *branch {
		b := &branch{Node: rest[0]}
		rest = rest[1:]
		for range b.Count {
			b.below = append(b.below, grow())
		}
		return b
	}
	return grow()
}

// bound is a variable, and those that were declared before it.
type bound struct {
	name   string
	held   any
	before *bound
}

func (v *bound) find(name []byte) *bound {
	for v != nil && v.name != string(name) {
		v = v.before
	}
	return v
}

// meant is a function with the variables that are visible in it.
type meant struct {
	*teller
	*branch
	visible *bound
}

// parting is how a block is left ahead of its end.
type parting struct {
	broken  bool
	results []any
}

// meaningOf answers Code, Prints and Error of a source that has a meaning, and
// how often each kind of node was come to. What is told for a budget goes at
// least as far as a run does: it is spent only on leaves and on the rounds of
// loops, none of which takes less than a step.
func meaningOf(src string, inputs [][]byte, budget int) (impl.Report, map[int]int) {
	tr, code, _ := impl.Parse([]byte(src))
	if code != impl.CodeOK {
		panic(src)
	}
	m := &teller{&walker{inputs: inputs, budget: budget, now: &thread{state: "running"}}, map[int]int{}}
	whole := &branch{below: []*branch{grown(tr)}}
	o := m.outcome(&meant{m, whole, nil})
	return impl.Report{Code: o.Code, Prints: o.Prints, Error: o.Error}, m.told
}

func (m *teller) spend() {
	if m.steps == m.budget {
		panic(&ending{over: true})
	}
	m.steps++
}

// called is the only place where a raise is caught; the caller raises it again.
func (f *meant) called(args []any) (results []any, bad *ending) {
	defer func() {
		if thrown := recover(); thrown != nil {
			results, bad = nil, thrown.(*ending)
		}
	}()
	visible := f.visible
	for i, name := range f.Names {
		visible = &bound{string(name), nth(args, i), visible}
	}
	if _, left := f.block(f.below[0], visible); left != nil {
		results = left.results
	}
	return results, nil
}

// block answers what is visible at its end too.
func (m *teller) block(b *branch, visible *bound) (*bound, *parting) {
	for _, s := range b.below {
		var left *parting
		if visible, left = m.stat(s, visible); left != nil {
			return visible, left
		}
	}
	return visible, nil
}

// stat answers what is visible behind the statement.
func (m *teller) stat(s *branch, visible *bound) (*bound, *parting) {
	m.told[s.Kind]++
	switch s.Kind {
	case impl.NodeLocal:
		values := m.list(s.below, len(s.Names), visible)
		for i, name := range s.Names {
			visible = &bound{string(name), values[i], visible}
		}
	case impl.NodeLocFunc:
		visible = &bound{string(s.Names[0]), nil, visible}
		visible.held = m.expr(s.below[0], visible)
	case impl.NodeAssign:
		m.assign(s.below[:s.N], s.below[s.N:], visible)
	case impl.NodeDo:
		_, left := m.block(s.below[0], visible)
		return visible, left
	case impl.NodeIf:
		return visible, m.choice(s.below, visible)
	case impl.NodeBreak:
		return visible, &parting{broken: true}
	case impl.NodeReturn:
		return visible, &parting{results: m.returned(s.below, visible)}
	case impl.NodeCallStat:
		m.call(s.below[0], visible)
	default:
		return visible, m.loop(s, visible)
	}
	return visible, nil
}

// list answers n values: of the last expression all that it gives, if it is a
// call that is needed, of the others one.
func (m *teller) list(exprs []*branch, n int, visible *bound) []any {
	var out []any
	for i, e := range exprs {
		if e.Kind == impl.NodeCall && i == len(exprs)-1 && i < n {
			out = append(out, m.call(e, visible)...)
		} else {
			out = append(out, m.expr(e, visible))
		}
	}
	return append(out, make([]any, n)...)[:n]
}

func (m *teller) assign(targets, exprs []*branch, visible *bound) {
	if len(targets) == 1 {
		set := m.target(targets[0], visible)
		set(m.list(exprs, 1, visible)[0])
		return
	}
	values := m.list(exprs, len(targets), visible)
	for i, one := range targets {
		m.target(one, visible)(values[i])
	}
}

// target works out which variable or entry is meant, and answers how to set it.
func (m *teller) target(e *branch, visible *bound) func(any) {
	if e.Kind == impl.NodeName {
		variable := visible.find(e.Names[0])
		return func(v any) { variable.held = v }
	}
	object, key := m.expr(e.below[0], visible), m.expr(e.below[1], visible)
	return func(v any) { store(object, key, v) }
}

func store(object, key, v any) {
	t, ok := object.(*pairs)
	if !ok || key == nil {
		panic(raising("index"))
	}
	t.list = append(t.list, [2]any{key, v})
}

func (m *teller) choice(parts []*branch, visible *bound) *parting {
	for len(parts) > 1 && !holds(m.expr(parts[0], visible)) {
		parts = parts[2:]
	}
	if len(parts) == 0 {
		return nil
	}
	_, left := m.block(parts[min(1, len(parts)-1)], visible)
	return left
}

// returned answers all that one call gives, and one value of each expression
// otherwise.
func (m *teller) returned(exprs []*branch, visible *bound) []any {
	if len(exprs) == 1 && exprs[0].Kind == impl.NodeCall {
		return m.call(exprs[0], visible)
	}
	var out []any
	for _, e := range exprs {
		out = append(out, m.expr(e, visible))
	}
	return out
}

func (m *teller) call(e *branch, visible *bound) []any {
	f := m.expr(e.below[0], visible)
	var args []any
	for _, one := range e.below[1:] {
		args = append(args, m.expr(one, visible))
	}
	results, bad := m.apply(f, args)
	if bad != nil {
		panic(bad)
	}
	return results
}

func (m *teller) loop(s *branch, visible *bound) *parting {
	for inner := range m.rounds(s, visible) {
		body := s.below[len(s.below)-1]
		if s.Kind == impl.NodeRepeat {
			body = s.below[0]
		}
		behind, left := m.block(body, inner)
		if left != nil && left.broken {
			return nil
		}
		if left != nil {
			return left
		}
		if s.Kind == impl.NodeRepeat && holds(m.expr(s.below[1], behind)) {
			return nil
		}
	}
	return nil
}

// rounds hands on what is visible in each round of a loop.
func (m *teller) rounds(s *branch, visible *bound) func(func(*bound) bool) {
	switch s.Kind {
	case impl.NodeWhile:
		return func(yield func(*bound) bool) {
			for holds(m.expr(s.below[0], visible)) && yield(visible) {
			}
		}
	case impl.NodeRepeat:
		return func(yield func(*bound) bool) {
			for yield(visible) {
			}
		}
	}
	return func(yield func(*bound) bool) {
		i, last, step := m.bounds(s.below[:len(s.below)-1], visible)
		for step > 0 && i <= last || step < 0 && i >= last {
			m.spend()
			if !yield(&bound{string(s.Names[0]), i, visible}) || step > 0 && i > math.MaxInt-step || step < 0 && i < math.MinInt-step {
				return
			}
			i += step
		}
	}
}

// bounds answers the three numbers of a loop.
func (m *teller) bounds(exprs []*branch, visible *bound) (first, last, step int) {
	numbers := [3]int{0, 0, 1}
	var values []any
	for _, e := range exprs {
		values = append(values, m.expr(e, visible))
	}
	for i, v := range values {
		n, ok := v.(int)
		if !ok || i == 2 && n == 0 {
			panic(raising("for"))
		}
		numbers[i] = n
	}
	return numbers[0], numbers[1], numbers[2]
}

func (m *teller) expr(e *branch, visible *bound) any {
	m.told[e.Kind]++
	if len(e.below) == 0 || e.Kind == impl.NodeFunc {
		m.spend()
	}
	switch e.Kind {
	case impl.NodeTrue, impl.NodeFalse:
		return e.Kind == impl.NodeTrue
	case impl.NodeInt:
		return e.N
	case impl.NodeText:
		return string(e.Text)
	case impl.NodeName:
		return m.name(e.Names[0], visible)
	case impl.NodeCall:
		return nth(m.call(e, visible), 0)
	case impl.NodeFunc:
		return &meant{m, e, visible}
	case impl.NodeTable:
		made := &pairs{}
		for i := 0; i < len(e.below); i += 2 {
			key, v := m.expr(e.below[i], visible), m.expr(e.below[i+1], visible)
			store(made, key, v)
		}
		return made
	case impl.NodeNil:
		return nil
	}
	return m.operation(e, visible)
}

func (m *teller) name(name []byte, visible *bound) any {
	if variable := visible.find(name); variable != nil {
		return variable.held
	}
	for i, known := range strings.Fields("print read tostring type pcall error create resume yield status") {
		if known == string(name) {
			return native(i)
		}
	}
	panic("a free name: " + string(name))
}

func (m *teller) operation(e *branch, visible *bound) any {
	left := m.expr(e.below[0], visible)
	switch {
	case e.Kind == impl.NodeNot:
		return !holds(left)
	case e.Kind == impl.NodeNeg:
		return operated(impl.OpSub, 0, left)
	case e.Kind == impl.NodeAnd && !holds(left) || e.Kind == impl.NodeOr && holds(left):
		return left
	}
	right := m.expr(e.below[1], visible)
	switch e.Kind {
	case impl.NodeIndex:
		t, ok := left.(*pairs)
		if !ok {
			panic(raising("index"))
		}
		return t.get(right)
	case impl.NodeBin:
		return operated(e.N, left, right)
	}
	return right
}

func operated(op int, x, y any) any {
	v, bad := worked(op, x, y)
	if bad != nil {
		panic(bad)
	}
	return v
}
