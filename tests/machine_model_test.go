package tests

import (
	"iter"
	"strconv"
	"strings"

	"loop.example/s02245/impl"
)

// walker runs a program a second time, unlike the machine: a call is a call of
// Go that answers all results, and whoever calls takes as many as it wants; a
// raise is an answer that is handed on; a coroutine is one of Go; and frames are
// only counted.
type walker struct {
	impl.Program
	inputs  [][]byte
	budget  int
	steps   int
	prints  [][]byte
	printed int
	most    int // the greatest number of frames
	now     *thread
	all     []*thread
}

// Values are nil, bool, int, string, *pairs, *lambda, callable, native and
// *thread.
type pairs struct{ list [][2]any }

type lambda struct {
	number int
	taken  []*any
}

// callable is a function that is not one of the program's code.
type callable interface {
	called(args []any) ([]any, *ending)
}

type native int

type thread struct {
	state   string
	depth   int // how many frames it has
	start   any
	next    func() (any, bool)
	stop    func()
	yield   func(any) bool
	sent    any
	results []any
	bad     *ending
}

// ending is why a call has no results.
type ending struct {
	over bool // the run is over
	held any  // else what was raised
}

func raising(text string) *ending { return &ending{held: text} }

func runByModel(p impl.Program, inputs [][]byte, budget int) impl.Outcome {
	w := &walker{Program: p, inputs: inputs, budget: budget, now: &thread{state: "running"}}
	return w.outcome(&lambda{})
}

// outcome is what is seen when a function is called as the main one.
func (w *walker) outcome(main any) impl.Outcome {
	_, bad := w.apply(main, nil)
	out := impl.Outcome{Prints: w.prints, Steps: w.steps, Frames: w.most}
	for _, t := range w.all {
		if t.stop != nil {
			t.stop()
		}
	}
	switch {
	case bad != nil && bad.over:
		out.Code = impl.CodeBudget
	case bad != nil:
		out.Code, out.Error = impl.CodeError, []byte(said(bad.held))
	}
	return out
}

func said(v any) string {
	switch v := v.(type) {
	case bool:
		return strconv.FormatBool(v)
	case int:
		return strconv.Itoa(v)
	case string:
		return v
	}
	return kindOf(v)
}

func kindOf(v any) string {
	switch v.(type) {
	case nil:
		return "nil"
	case bool:
		return "boolean"
	case int:
		return "number"
	case string:
		return "string"
	case *pairs:
		return "table"
	case *thread:
		return "coroutine"
	}
	return "function"
}

func nth(list []any, i int) any {
	if i < len(list) {
		return list[i]
	}
	return nil
}

func holds(v any) bool { return v != nil && v != false }

// deeper counts a frame that comes on top.
func (w *walker) deeper() {
	w.now.depth++
	w.most = max(w.most, w.now.depth)
}

// apply calls a value; a tail call goes round once more.
func (w *walker) apply(f any, args []any) ([]any, *ending) {
	for {
		switch g := f.(type) {
		case *lambda:
			w.deeper()
			b := &body{walker: w, Proto: w.Protos[g.number], own: g}
			results, bad := b.walk(args)
			if bad != nil {
				return nil, bad
			}
			w.now.depth--
			if !b.tail {
				return results, nil
			}
			f, args = results[0], results[1:]
		case native:
			return w.native(int(g), args)
		case callable:
			return g.called(args)
		default:
			return nil, raising("call")
		}
	}
}

func (w *walker) native(number int, args []any) ([]any, *ending) {
	v := nth(args, 0)
	switch number {
	case 0:
		return nil, w.print(args)
	case 1:
		if len(w.inputs) == 0 {
			return []any{nil}, nil
		}
		line := string(w.inputs[0])
		w.inputs = w.inputs[1:]
		return []any{line}, nil
	case 2:
		return []any{said(v)}, nil
	case 3:
		return []any{kindOf(v)}, nil
	case 4:
		return w.guarded(args)
	case 5:
		return nil, &ending{held: v}
	case 6:
		if kindOf(v) != "function" {
			return nil, raising("argument")
		}
		t := &thread{state: "suspended", start: v}
		w.all = append(w.all, t)
		return []any{t}, nil
	case 8:
		return w.yielded(v)
	}
	t, ok := v.(*thread)
	if !ok {
		return nil, raising("argument")
	}
	if number == 9 {
		return []any{t.state}, nil
	}
	return w.resumed(t, nth(args, 1))
}

func (w *walker) print(args []any) *ending {
	var words []string
	for _, v := range args {
		words = append(words, said(v))
	}
	line := strings.Join(words, "\t")
	if w.printed+len(line) > 100000 {
		return raising("output")
	}
	w.printed += len(line)
	w.prints = append(w.prints, []byte(line))
	return nil
}

func (w *walker) guarded(args []any) ([]any, *ending) {
	before := w.now.depth
	w.deeper()
	var rest []any
	if len(args) > 1 {
		rest = args[1:]
	}
	results, bad := w.apply(nth(args, 0), rest)
	if bad != nil && bad.over {
		return nil, bad
	}
	w.now.depth = before
	if bad != nil {
		return []any{false, bad.held}, nil
	}
	return []any{true, nth(results, 0)}, nil
}

func (w *walker) yielded(v any) ([]any, *ending) {
	t := w.now
	if t.yield == nil {
		return nil, raising("yield")
	}
	if !t.yield(v) {
		return nil, &ending{over: true}
	}
	return []any{t.sent}, nil
}

func (w *walker) resumed(t *thread, u any) ([]any, *ending) {
	if t.state != "suspended" {
		return []any{false, "cannot resume"}, nil
	}
	if t.next == nil {
		t.next, t.stop = iter.Pull(func(yield func(any) bool) {
			t.yield = yield
			t.results, t.bad = w.apply(t.start, []any{t.sent})
		})
	}
	around := w.now
	around.state, t.state, t.sent, w.now = "normal", "running", u, t
	v, yielded := t.next()
	around.state, t.state, w.now = "running", "suspended", around
	if yielded {
		return []any{true, v}, nil
	}
	t.state = "dead"
	switch {
	case t.bad == nil:
		return []any{true, nth(t.results, 0)}, nil
	case t.bad.over:
		return nil, t.bad
	}
	return []any{false, t.bad.held}, nil
}

// body is one call of a function.
type body struct {
	*walker
	impl.Proto
	own   *lambda
	at    int
	cells [200]*any
	stack []any
	tail  bool // it ended with a tail call: its results are the function and the arguments
}

func (b *body) walk(args []any) ([]any, *ending) {
	for i := range b.Slots {
		b.cells[i] = new(any)
		if i < b.Params {
			*b.cells[i] = nth(args, i)
		}
	}
	for {
		if b.steps == b.budget {
			return nil, &ending{over: true}
		}
		b.steps++
		x := b.Code[b.at]
		b.at++
		switch x.Op {
		case impl.InsReturn:
			return b.last(x.A), nil
		case impl.InsTail:
			b.tail = true
			return b.last(x.A + 1), nil
		}
		if bad := b.one(x); bad != nil {
			return nil, bad
		}
	}
}

func (b *body) last(n int) []any { return b.stack[len(b.stack)-n:] }

// taken takes n operands off.
func (b *body) taken(n int) []any {
	out := append([]any(nil), b.last(n)...)
	b.stack = b.stack[:len(b.stack)-n]
	return out
}

func (b *body) put(list ...any) { b.stack = append(b.stack, list...) }

func (b *body) one(x impl.Ins) *ending {
	switch x.Op {
	case impl.InsConst:
		if c := b.Consts[x.A]; c.IsText {
			b.put(string(c.Text))
		} else {
			b.put(c.N)
		}
	case impl.InsNil:
		b.put(nil)
	case impl.InsTrue, impl.InsFalse:
		b.put(x.Op == impl.InsTrue)
	case impl.InsBuiltin:
		b.put(native(x.A))
	case impl.InsGet:
		b.put(*b.cells[x.A])
	case impl.InsSet:
		*b.cells[x.A] = b.taken(1)[0]
	case impl.InsNew:
		b.cells[x.A] = &b.taken(1)[0]
	case impl.InsUp:
		b.put(*b.own.taken[x.A])
	case impl.InsSetUp:
		*b.own.taken[x.A] = b.taken(1)[0]
	case impl.InsFunc:
		made := &lambda{number: x.A}
		for _, c := range b.Protos[x.A].Captures {
			from := b.cells[:]
			if c.Up {
				from = b.own.taken
			}
			made.taken = append(made.taken, from[c.Index])
		}
		b.put(made)
	case impl.InsTable:
		b.put(&pairs{})
	case impl.InsPop:
		b.taken(1)
	case impl.InsCall:
		list := b.taken(x.A + 1)
		results, bad := b.apply(list[0], list[1:])
		for i := range x.B {
			b.put(nth(results, i))
		}
		return bad
	case impl.InsField, impl.InsIndex, impl.InsStore:
		return b.tableIns(x)
	case impl.InsForTest, impl.InsForNext:
		return b.loopIns(x)
	default:
		return b.otherIns(x)
	}
	return nil
}

func (b *body) tableIns(x impl.Ins) *ending {
	if x.Op == impl.InsIndex {
		list := b.taken(2)
		t, ok := list[0].(*pairs)
		if !ok {
			return raising("index")
		}
		b.put(t.get(list[1]))
		return nil
	}
	list := b.taken(3)
	t, ok := list[0].(*pairs)
	if !ok || list[1] == nil {
		return raising("index")
	}
	t.list = append(t.list, [2]any{list[1], list[2]})
	if x.Op == impl.InsField {
		b.put(t)
	}
	return nil
}

// get answers what a key was given last.
func (t *pairs) get(key any) any {
	for i := len(t.list) - 1; i >= 0; i-- {
		if t.list[i][0] == key {
			return t.list[i][1]
		}
	}
	return nil
}

func (b *body) loopIns(x impl.Ins) *ending {
	i, ok1 := (*b.cells[x.A]).(int)
	n, ok2 := (*b.cells[x.A+1]).(int)
	d, ok3 := (*b.cells[x.A+2]).(int)
	if !ok1 || !ok3 {
		return raising("for")
	}
	if x.Op == impl.InsForTest {
		if !ok2 || d == 0 {
			return raising("for")
		}
		if d > 0 && i > n || d < 0 && i < n {
			b.at = x.B
		}
		return nil
	}
	if sum := i + d; !(d > 0 && sum < i) && !(d < 0 && sum > i) {
		*b.cells[x.A] = sum
		b.at = x.B
	}
	return nil
}

func (b *body) otherIns(x impl.Ins) *ending {
	if x.Op == impl.InsJump {
		b.at = x.A
		return nil
	}
	if x.Op == impl.InsBin {
		list := b.taken(2)
		v, bad := worked(x.A, list[0], list[1])
		b.put(v)
		return bad
	}
	v := b.taken(1)[0]
	switch x.Op {
	case impl.InsNot:
		b.put(!holds(v))
	case impl.InsNeg:
		v, bad := worked(impl.OpSub, 0, v)
		b.put(v)
		return bad
	case impl.InsJumpFalse:
		if !holds(v) {
			b.at = x.A
		}
	case impl.InsAnd, impl.InsOr:
		if holds(v) == (x.Op == impl.InsOr) {
			b.put(v)
			b.at = x.A
		}
	}
	return nil
}

func worked(op int, x, y any) (any, *ending) {
	a, okA := x.(int)
	b, okB := y.(int)
	s, isA := x.(string)
	u, isB := y.(string)
	switch {
	case op == impl.OpEq || op == impl.OpNe:
		return (x == y) == (op == impl.OpEq), nil
	case op == impl.OpCat:
		if !okA && !isA || !okB && !isB {
			return nil, raising("concatenation")
		}
		if whole := said(x) + said(y); len(whole) <= 5000 {
			return whole, nil
		}
		return nil, raising("too long")
	case op < impl.OpCat && (!okA || !okB):
		return nil, raising("arithmetic")
	case op < impl.OpCat:
		n, code := impl.Arith(op, a, b)
		if code == impl.CodeZero {
			return nil, raising("zero")
		}
		return n, nil
	case okA && okB:
		return []bool{a < b, a <= b, a > b, a >= b}[op-impl.OpLt], nil
	case isA && isB:
		return []bool{s < u, s <= u, s > u, s >= u}[op-impl.OpLt], nil
	}
	return nil, raising("comparison")
}
