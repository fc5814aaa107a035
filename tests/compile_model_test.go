package tests

import (
	"slices"

	"loop.example/s02245/impl"
)

// scribe compiles a tree a second time, as the document words it: the slot of a
// variable is the number of its function's variables in the list of those that
// are visible, jumps lead to marks, and captures stay variables up to the end.
type scribe struct {
	rest    tree
	all     []variable
	visible []int // of all, the one declared last at the end; those without a name too
	funcs   []*writing
	now     int // the function that is written
	consts  []impl.Const
	behind  []*int // the marks behind the loops around, the innermost one last
	free    map[string]bool
	misused bool
}

type variable struct {
	name string
	fn   int
	slot int
}

type writing struct {
	params, slots, around int
	code                  []impl.Ins
	marks                 map[int]*int // of the instructions that jump
	taken                 []int        // captured variables
}

func scribed(t tree) *scribe {
	s := &scribe{rest: t, free: map[string]bool{}}
	s.function(nil)
	return s
}

func (s *scribe) program() impl.Program {
	p := impl.Program{Consts: s.consts}
	for _, w := range s.funcs {
		f := impl.Proto{Params: w.params, Slots: w.slots, Code: w.code}
		for at, mark := range w.marks {
			if op := f.Code[at].Op; op == impl.InsForTest || op == impl.InsForNext {
				f.Code[at].B = *mark
			} else {
				f.Code[at].A = *mark
			}
		}
		for _, id := range w.taken {
			c := impl.Capture{Index: s.all[id].slot}
			if s.all[id].fn != w.around {
				c = impl.Capture{Up: true, Index: slices.Index(s.funcs[w.around].taken, id)}
			}
			f.Captures = append(f.Captures, c)
		}
		p.Protos = append(p.Protos, f)
	}
	return p
}

func (s *scribe) put(op int, numbers ...int) {
	numbers = append(numbers, 0, 0)
	w := s.funcs[s.now]
	w.code = append(w.code, impl.Ins{Op: op, A: numbers[0], B: numbers[1]})
}

func (s *scribe) jump(mark *int, op int, numbers ...int) {
	s.put(op, numbers...)
	s.funcs[s.now].marks[len(s.funcs[s.now].code)-1] = mark
}

func (s *scribe) place(mark *int) { *mark = len(s.funcs[s.now].code) }

func (s *scribe) take() impl.Node {
	n := s.rest[0]
	s.rest = s.rest[1:]
	return n
}

// add makes a variable visible and answers its slot.
func (s *scribe) add(name string) int {
	slot := 0
	for _, id := range s.visible {
		if s.all[id].fn == s.now {
			slot++
		}
	}
	s.visible = append(s.visible, len(s.all))
	s.all = append(s.all, variable{name, s.now, slot})
	s.funcs[s.now].slots = max(s.funcs[s.now].slots, slot+1)
	return slot
}

// addAll makes variables of the values that are the last operands.
func (s *scribe) addAll(names ...string) (slots []int) {
	for _, name := range names {
		slots = append(slots, s.add(name))
	}
	for _, slot := range slices.Backward(slots) {
		s.put(impl.InsNew, slot)
	}
	return slots
}

// meant answers the visible variable of a name, or -1.
func (s *scribe) meant(name string) int {
	for _, id := range slices.Backward(s.visible) {
		if s.all[id].name == name {
			return id
		}
	}
	return -1
}

// use writes get or, for a captured variable, up.
func (s *scribe) use(id, get, up int) {
	if s.all[id].fn == s.now {
		s.put(get, s.all[id].slot)
		return
	}
	for fn := s.now; fn != s.all[id].fn; fn = s.funcs[fn].around {
		if w := s.funcs[fn]; !slices.Contains(w.taken, id) {
			w.taken = append(w.taken, id)
		}
	}
	s.put(up, slices.Index(s.funcs[s.now].taken, id))
}

func (s *scribe) builtin(name string) int {
	list := []string{"print", "read", "tostring", "type", "pcall", "error", "create", "resume", "yield", "status"}
	return slices.Index(list, name)
}

func (s *scribe) name(name string) {
	if id := s.meant(name); id >= 0 {
		s.use(id, impl.InsGet, impl.InsUp)
	} else if s.builtin(name) >= 0 {
		s.put(impl.InsBuiltin, s.builtin(name))
	} else {
		s.free[name] = true
	}
}

func (s *scribe) setName(name string) {
	if id := s.meant(name); id >= 0 {
		s.use(id, impl.InsSet, impl.InsSetUp)
	} else if s.builtin(name) >= 0 {
		s.misused = true
	} else {
		s.free[name] = true
	}
}

func (s *scribe) constant(c impl.Const) {
	index := slices.IndexFunc(s.consts, func(old impl.Const) bool { return sameConst(c, old) })
	if index < 0 {
		index = len(s.consts)
		s.consts = append(s.consts, c)
	}
	s.put(impl.InsConst, index)
}

// function writes the function whose block comes next, and answers its number.
func (s *scribe) function(params [][]byte) int {
	around, number, seen := s.now, len(s.funcs), len(s.visible)
	s.funcs = append(s.funcs, &writing{params: len(params), around: around, marks: map[int]*int{}})
	s.now = number
	for _, name := range params {
		s.add(string(name))
	}
	s.block()
	s.put(impl.InsReturn, 0)
	s.now, s.visible = around, s.visible[:seen]
	return number
}

func (s *scribe) block() {
	seen := len(s.visible)
	s.statements()
	s.visible = s.visible[:seen]
}

func (s *scribe) statements() {
	for range s.take().Count {
		s.stat()
	}
}

func (s *scribe) exprs(n int) {
	for range n {
		s.expr()
	}
}

// values writes n values of the m expressions that come next.
func (s *scribe) values(n, m int) {
	lastIsCall := false
	for i := range m {
		lastIsCall = s.rest[0].Kind == impl.NodeCall
		s.expr()
		if i >= n {
			s.put(impl.InsPop)
		}
	}
	if m <= n && lastIsCall {
		code := s.funcs[s.now].code
		code[len(code)-1].B = n - m + 1
		return
	}
	for i := m; i < n; i++ {
		s.put(impl.InsNil)
	}
}
