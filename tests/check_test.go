package tests

import (
	"math"
	"slices"
	"strings"
	"testing"

	"loop.example/s02245/impl"
)

func ins(op int, numbers ...int) impl.Ins {
	numbers = append(numbers, 0, 0)
	return impl.Ins{Op: op, A: numbers[0], B: numbers[1]}
}

// assembled reads code as it is listed, without its `;` at the end.
func assembled(text string) []impl.Ins {
	rows := insTable()
	var code []impl.Ins
	for _, line := range strings.Split(text, ";") {
		words := strings.Fields(line)
		op := slices.IndexFunc(rows, func(r insRow) bool { return r.word == words[0] })
		x := ins(op)
		for i, word := range words[1:] {
			n := 0
			for _, c := range word {
				n = n*10 + int(c-'0')
			}
			if i == 0 {
				x.A = n
			} else {
				x.B = n
			}
		}
		code = append(code, x)
	}
	return code
}

// plant is a sound program with two constants, a first function with 5 slots
// that makes each of the two others, which have 5 slots and 2 captures.
func plant() impl.Program {
	captures := []impl.Capture{{Index: 0}, {Index: 4}}
	return impl.Program{
		Consts: []impl.Const{{N: 5}, {IsText: true, Text: []byte("x")}},
		Protos: []impl.Proto{
			{Slots: 5, Code: assembled("func 1; func 2; return 2")},
			{Params: 2, Slots: 5, Captures: captures, Code: assembled("return 0")},
			{Slots: 5, Captures: slices.Clone(captures), Code: assembled("return 0")},
		},
	}
}

// planted1 is plant with other code in its second function.
func planted1(code ...impl.Ins) impl.Program {
	p := plant()
	p.Protos[1].Code = code
	return p
}

func checkSound(t *testing.T, what string, p impl.Program, want bool) {
	t.Helper()
	given := copyProgram(p)
	if got := impl.Check(given); got != want {
		t.Errorf("%s: %v, want %v", what, got, want)
	}
	if !sameProgram(given, p) {
		t.Errorf("%s: the program was written into", what)
	}
}

func checkCodeSound(t *testing.T, text string, want bool) {
	t.Helper()
	checkSound(t, text, planted1(assembled(text)...), want)
}

// changed is plant after a change.
func changed(change func(p *impl.Program)) impl.Program {
	p := plant()
	change(&p)
	return p
}

// bounds checks a number at both of its bounds and one beyond them.
func bounds(t *testing.T, what string, low, high int, set func(p *impl.Program, n int)) {
	t.Helper()
	for n, want := range map[int]bool{low: true, high: true, low - 1: false, high + 1: false, math.MinInt: false, math.MaxInt: false} {
		checkSound(t, what+" "+string(impl.FormatInt(n)), changed(func(p *impl.Program) { set(p, n) }), want)
	}
}

func TestCheckOfPrograms(t *testing.T) {
	checkSound(t, "plant", plant(), true)
	checkSound(t, "zero", impl.Program{}, false)
	checkSound(t, "no function", impl.Program{Consts: plant().Consts}, false)
	checkSound(t, "one function", impl.Program{Protos: []impl.Proto{{Code: assembled("return 0")}}}, true)
	withFunctions := func(n int) impl.Program {
		return changed(func(p *impl.Program) {
			for len(p.Protos) < n {
				p.Protos = append(p.Protos, impl.Proto{Code: assembled("return 0")})
			}
		})
	}
	checkSound(t, "500 functions", withFunctions(impl.MaxProtos), true)
	checkSound(t, "501 functions", withFunctions(impl.MaxProtos+1), false)
	withConstants := func(n int) impl.Program {
		return impl.Program{Consts: make([]impl.Const, n), Protos: []impl.Proto{{Code: assembled("return 0")}}}
	}
	checkSound(t, "20000 constants", withConstants(impl.MaxCode), true)
	checkSound(t, "20001 constants", withConstants(impl.MaxCode+1), false)
	for _, at := range []int{0, 1, 2} {
		withCode := func(n int) impl.Program {
			return changed(func(p *impl.Program) {
				have := len(p.Protos[0].Code) + len(p.Protos[1].Code) + len(p.Protos[2].Code)
				p.Protos[at].Code = append(p.Protos[at].Code, slices.Repeat([]impl.Ins{ins(impl.InsNil)}, n-have)...)
			})
		}
		checkSound(t, "20000 instructions", withCode(impl.MaxCode), true)
		checkSound(t, "20001 instructions", withCode(impl.MaxCode+1), false)
	}
}

func TestCheckOfConstants(t *testing.T) {
	long := slices.Repeat([]byte("a"), impl.MaxText+1)
	for what, c := range map[string]impl.Const{
		"number": {N: math.MinInt}, "zero": {}, "text": {IsText: true, Text: []byte("\x00\xff")}, "empty text": {IsText: true},
		"longest text": {IsText: true, Text: long[1:]}, "empty list": {N: 1, Text: []byte{}},
	} {
		checkSound(t, what, changed(func(p *impl.Program) { p.Consts = append(p.Consts, c, c) }), true)
	}
	for what, c := range map[string]impl.Const{
		"number with text": {N: 1, Text: []byte("a")}, "zero with text": {Text: []byte("a")}, "text with number": {IsText: true, N: 1},
		"text with both": {IsText: true, N: -1, Text: []byte("a")}, "too long": {IsText: true, Text: long}, "long number": {Text: long},
	} {
		checkSound(t, what+" first", changed(func(p *impl.Program) { p.Consts = slices.Insert(p.Consts, 0, c) }), false)
		checkSound(t, what+" last", changed(func(p *impl.Program) { p.Consts = append(p.Consts, c) }), false)
	}
}

func TestCheckOfFunctions(t *testing.T) {
	bounds(t, "Params", 0, 5, func(p *impl.Program, n int) { p.Protos[1].Params = n })
	bounds(t, "Params of the last one", 0, 5, func(p *impl.Program, n int) { p.Protos[2].Params = n })
	bounds(t, "Params of the first one", 0, 0, func(p *impl.Program, n int) { p.Protos[0].Params = n })
	// slot 4 of the first one is captured, and the others have two parameters or none
	bounds(t, "Slots of the first one", 5, impl.MaxSlots, func(p *impl.Program, n int) { p.Protos[0].Slots = n })
	bounds(t, "Slots", 2, impl.MaxSlots, func(p *impl.Program, n int) { p.Protos[1].Slots = n })
	bounds(t, "Slots without parameters", 0, impl.MaxSlots, func(p *impl.Program, n int) { p.Protos[2].Slots = n })
	bounds(t, "Params and Slots", 0, impl.MaxSlots, func(p *impl.Program, n int) { p.Protos[2].Params, p.Protos[2].Slots = n, n })
	withCaptures := func(at, n int) impl.Program {
		return changed(func(p *impl.Program) { p.Protos[at].Captures = slices.Repeat([]impl.Capture{{Index: 3}}, n) })
	}
	for _, at := range []int{1, 2} {
		for n, want := range map[int]bool{0: true, 1: true, impl.MaxUps: true, impl.MaxUps + 1: false} {
			checkSound(t, "captures "+string(impl.FormatInt(n)), withCaptures(at, n), want)
		}
	}
	checkSound(t, "a capture of the first one", withCaptures(0, 1), false)
	checkSound(t, "a capture of the first one", changed(func(p *impl.Program) { p.Protos[0].Captures = []impl.Capture{{Up: true}} }), false)
	// one that nobody makes
	for _, up := range []bool{false, true} {
		bounds(t, "Index", 0, impl.MaxSlots-1, func(p *impl.Program, n int) {
			captures := []impl.Capture{{Index: 0}, {Up: up, Index: n}}
			p.Protos = append(p.Protos, impl.Proto{Captures: captures, Code: assembled("return 0")})
		})
	}
	for at := range 3 {
		checkSound(t, "no instruction", changed(func(p *impl.Program) { p.Protos[at].Code = nil }), false)
		checkSound(t, "no instruction", changed(func(p *impl.Program) { p.Protos[at].Code = []impl.Ins{} }), false)
	}
}

// TestCheckOfCaptures has functions made in others, by instructions that can be
// come to and by others.
func TestCheckOfCaptures(t *testing.T) {
	bounds(t, "slot of the maker", 0, 4, func(p *impl.Program, n int) { p.Protos[1].Captures[1].Index = n })
	bounds(t, "first slot of the maker", 0, 4, func(p *impl.Program, n int) { p.Protos[1].Captures[0].Index = n })
	checkSound(t, "up of the first one", changed(func(p *impl.Program) { p.Protos[1].Captures[0].Up = true }), false)
	for _, text := range []string{"func 3; return 1", "return 0; func 3; return 1"} {
		inner := func(c impl.Capture) func(p *impl.Program) {
			return func(p *impl.Program) {
				p.Protos[1].Code = assembled(text)
				p.Protos = append(p.Protos, impl.Proto{Captures: []impl.Capture{{}, c}, Code: assembled("return 0")})
			}
		}
		bounds(t, text+" slot", 0, 4, func(p *impl.Program, n int) { inner(impl.Capture{Index: n})(p) })
		bounds(t, text+" up", 0, 1, func(p *impl.Program, n int) { inner(impl.Capture{Up: true, Index: n})(p) })
	}
	// made in two functions, of which one has too few slots
	checkSound(t, "second maker", changed(func(p *impl.Program) {
		p.Protos[2].Code = assembled("func 1; return 1")
	}), true)
	checkSound(t, "second maker with too few slots", changed(func(p *impl.Program) {
		p.Protos[2].Slots = 4
		p.Protos[2].Code = assembled("func 1; return 1")
	}), false)
	// a function that makes itself, from its own slots
	checkSound(t, "itself", changed(func(p *impl.Program) { p.Protos[1].Code = assembled("func 1; return 1") }), true)
}

// ranges of the numbers in the second function of plant, with code of three
// instructions
func numberRange(kind string) (low, high int) {
	switch kind {
	case "constant":
		return 0, 1
	case "builtin":
		return 0, 9
	case "slot":
		return 0, 4
	case "loop":
		return 0, 2
	case "capture":
		return 0, 1
	case "function":
		return 1, 2
	case "operation":
		return 0, 11
	case "number":
		return 0, 50
	case "target":
		return 0, 2
	}
	return 0, 0
}

// TestCheckOfNumbers has each instruction where it can't be come to, so that
// only its numbers count.
func TestCheckOfNumbers(t *testing.T) {
	for op, row := range insTable() {
		lowA, highA := numberRange(row.a)
		lowB, highB := numberRange(row.b)
		set := func(x impl.Ins) func(p *impl.Program) {
			return func(p *impl.Program) {
				p.Protos[1].Code = []impl.Ins{ins(impl.InsReturn), x, ins(impl.InsReturn)}
			}
		}
		bounds(t, row.word+" A", lowA, highA, func(p *impl.Program, n int) { set(ins(op, n, lowB))(p) })
		bounds(t, row.word+" B", lowB, highB, func(p *impl.Program, n int) { set(ins(op, lowA, n))(p) })
		for a := lowA - 2; a <= highA+2; a++ {
			for b := lowB - 2; b <= highB+2; b++ {
				want := lowA <= a && a <= highA && lowB <= b && b <= highB
				checkSound(t, row.word, changed(set(ins(op, a, b))), want)
			}
		}
	}
	for _, op := range []int{-1, 28, math.MinInt, math.MaxInt, 256} {
		checkSound(t, "no kind", planted1(ins(impl.InsReturn), ins(op)), false)
		checkSound(t, "no kind", planted1(ins(op), ins(impl.InsReturn)), false)
	}
	for slots := range 4 {
		few := changed(func(p *impl.Program) {
			p.Protos[2].Slots = slots
			p.Protos[2].Code = assembled("fortest 0 1; return 0")
		})
		checkSound(t, "slots of a loop", few, slots >= 3)
	}
}

// TestCheckOfOperands has each instruction with as many operands as it takes,
// and with one too few; behind it as many as it leaves can be returned, no more.
func TestCheckOfOperands(t *testing.T) {
	for op, row := range insTable() {
		for a := range 4 {
			for b := range 4 {
				checkOperands(t, op, row, a, b)
			}
		}
	}
}

func checkOperands(t *testing.T, op int, row insRow, a, b int) {
	takes, leaves := row.takes, row.leaves
	x := ins(op)
	switch {
	case row.b == "number":
		x.A, x.B, takes, leaves = a, b, takes+a, b
	case row.a == "number":
		x.A, takes = a, takes+a
	case row.a == "function":
		x.A = 1
	}
	ends := op == impl.InsTail || op == impl.InsReturn || op == impl.InsJump
	program := func(before, returned, filled int) impl.Program {
		nils := slices.Repeat([]impl.Ins{ins(impl.InsNil)}, before)
		x := x
		if row.a == "target" {
			x.A = before + 1 // the instruction behind it
		}
		if row.b == "target" {
			x.B = before + 1
		}
		code := append(nils, x)
		code = append(code, slices.Repeat([]impl.Ins{ins(impl.InsNil)}, filled)...)
		return planted1(append(code, ins(impl.InsReturn, returned))...)
	}
	// InsAnd and InsOr leave an operand only where they jump
	both := op == impl.InsAnd || op == impl.InsOr
	for extra := range 3 {
		checkSound(t, row.word, program(takes+extra, extra+leaves, 0), !both)
		checkSound(t, row.word+" returning too much", program(takes+extra, extra+leaves+1, 0), ends && op != impl.InsJump)
	}
	if takes > 0 {
		checkSound(t, row.word+" with too few", program(takes-1, 0, 0), false)
	}
	if ends && op != impl.InsJump || both {
		return
	}
	// at most MaxOperand before and behind
	most := min(impl.MaxOperand, impl.MaxOperand+takes-leaves)
	checkSound(t, row.word+" with many", program(most, 0, 0), true)
	checkSound(t, row.word+" with too many", program(most+1, 0, 0), false)
	checkSound(t, row.word+" filled up", program(most, 0, impl.MaxOperand-(most-takes+leaves)), true)
	checkSound(t, row.word+" overfilled", program(most, 0, impl.MaxOperand-(most-takes+leaves)+1), false)
}

func TestCheckOfWays(t *testing.T) {
	// ways that meet
	checkCodeSound(t, "nil; jumpfalse 4; nil; jump 5; true; return 1", true)
	checkCodeSound(t, "nil; jumpfalse 4; nil; jump 4; return 0", false)
	checkCodeSound(t, "nil; jumpfalse 5; nil; nil; jump 6; true; return 1", false)
	checkCodeSound(t, "nil; and 3; nil; return 1", true)
	checkCodeSound(t, "nil; or 3; nil; return 1", true)
	checkCodeSound(t, "nil; and 2; return 0", false)
	checkCodeSound(t, "nil; or 4; nil; nil; return 1", false)
	checkCodeSound(t, "nil; and 3; return 0; return 1", true)
	checkCodeSound(t, "nil; and 3; return 0; return 2", false)
	checkCodeSound(t, "nil; or 3; return 1; return 1", false)
	checkCodeSound(t, "nil; and 0; return 0", false)
	checkCodeSound(t, "fortest 0 3; nil; pop; return 0", true)
	checkCodeSound(t, "fortest 0 2; nil; return 0", false)
	checkCodeSound(t, "fornext 0 2; nil; return 0", false)
	checkCodeSound(t, "nil; fornext 2 1; return 1", true)
	// loops
	checkCodeSound(t, "jump 0", true)
	checkCodeSound(t, "nil; jump 0", false)
	checkCodeSound(t, "nil; jump 1", true)
	checkCodeSound(t, "nil; pop; jump 0", true)
	checkCodeSound(t, "pop; jump 0", false)
	checkCodeSound(t, "nil; pop; nil; jumpfalse 0; return 0", true)
	checkCodeSound(t, "nil; nil; jumpfalse 0; return 0", false)
	checkCodeSound(t, "nil; nil; jumpfalse 1; return 1", true)
	// code that can't be come to
	checkCodeSound(t, "return 0; pop", true)
	checkCodeSound(t, "return 0; nil", true)
	checkCodeSound(t, "jump 2; pop; return 0", true)
	checkCodeSound(t, "nil; tail 0; pop; pop; return 50", true)
	checkCodeSound(t, "return 0; jump 0; nil; jump 0", true)
	checkCodeSound(t, "jump 3; pop; jump 3; return 0", true)
	checkCodeSound(t, "jump 2; return 5; nil; jumpfalse 1; return 0", false)
	checkCodeSound(t, "return 0; get 5", false)
	// behind the last one
	checkCodeSound(t, "nil", false)
	checkCodeSound(t, "nil; pop", false)
	checkCodeSound(t, "nil; jumpfalse 0", false)
	checkCodeSound(t, "nil; and 0", false)
	checkCodeSound(t, "nil; or 1", false)
	checkCodeSound(t, "fortest 0 0", false)
	checkCodeSound(t, "fornext 0 0", false)
	checkCodeSound(t, "nil; call 0 0", false)
	checkCodeSound(t, "nil; tail 0", true)
	checkCodeSound(t, "nil; return 1", true)
	checkCodeSound(t, "jump 2; return 0; jump 1", true)
	checkCodeSound(t, "jump 2; return 0; nil", false)
	// in another function than the first one only, or there
	checkSound(t, "first function", changed(func(p *impl.Program) { p.Protos[0].Code = assembled("pop; return 0") }), false)
	checkSound(t, "last function", changed(func(p *impl.Program) { p.Protos[2].Code = assembled("pop; return 0") }), false)
}
