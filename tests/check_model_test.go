package tests

import (
	"math/rand"
	"slices"
	"testing"

	"loop.example/s02245/impl"
)

// state is an instruction that is come to with some operands.
type state struct{ at, operands int }

// soundCode goes through all states to which a function can come, one for each
// number of operands, and only then looks whether there is one for each
// instruction.
func soundCode(code []impl.Ins) bool {
	rows := insTable()
	seen := map[state]bool{{}: true}
	open := []state{{}}
	for len(open) > 0 {
		now := open[0]
		open = open[1:]
		if now.at >= len(code) || now.operands > impl.MaxOperand {
			return false
		}
		x := code[now.at]
		row := rows[x.Op]
		takes, leaves := row.takes, row.leaves
		if row.a == "number" {
			takes += x.A
		}
		if row.b == "number" {
			leaves += x.B
		}
		if now.operands < takes {
			return false
		}
		rest := now.operands - takes
		if rest+leaves > impl.MaxOperand {
			return false
		}
		for _, next := range nextStates(x, now.at, rest, leaves) {
			if !seen[next] {
				seen[next] = true
				open = append(open, next)
			}
		}
	}
	ats := map[int]int{}
	for s := range seen {
		ats[s.at]++
	}
	return len(ats) == len(seen)
}

func nextStates(x impl.Ins, at, rest, leaves int) []state {
	on := state{at + 1, rest + leaves}
	switch x.Op {
	case impl.InsReturn, impl.InsTail:
		return nil
	case impl.InsJump:
		return []state{{x.A, rest}}
	case impl.InsJumpFalse:
		return []state{{x.A, rest}, on}
	case impl.InsAnd, impl.InsOr:
		return []state{{x.A, rest + 1}, on}
	case impl.InsForTest, impl.InsForNext:
		return []state{{x.B, rest}, on}
	}
	return []state{on}
}

// soundNumber reads point 3 of 4.3 for one number.
func soundNumber(p impl.Program, f impl.Proto, kind string, n int) bool {
	has := func(low, high int) bool { return low <= n && n <= high }
	switch kind {
	case "constant":
		return has(0, len(p.Consts)-1)
	case "builtin":
		return has(0, 9)
	case "slot":
		return has(0, f.Slots-1)
	case "loop":
		return has(0, f.Slots-3)
	case "capture":
		return has(0, len(f.Captures)-1)
	case "function":
		return has(1, len(p.Protos)-1)
	case "operation":
		return has(0, 11)
	case "number":
		return has(0, impl.MaxArgs)
	case "target":
		return has(0, len(f.Code)-1)
	}
	return n == 0
}

func soundIns(p impl.Program, f impl.Proto, x impl.Ins) bool {
	rows := insTable()
	if x.Op < 0 || x.Op > 27 || !soundNumber(p, f, rows[x.Op].a, x.A) || !soundNumber(p, f, rows[x.Op].b, x.B) {
		return false
	}
	if x.Op != impl.InsFunc {
		return true
	}
	return !slices.ContainsFunc(p.Protos[x.A].Captures, func(c impl.Capture) bool {
		return c.Up && c.Index >= len(f.Captures) || !c.Up && c.Index >= f.Slots || c.Index < 0
	})
}

// soundByModel reads 4.3 for programs that are far below the limits of sizes.
func soundByModel(p impl.Program) bool {
	if len(p.Protos) == 0 || p.Protos[0].Params != 0 || len(p.Protos[0].Captures) > 0 {
		return false
	}
	for _, c := range p.Consts {
		if c.IsText && c.N != 0 || !c.IsText && len(c.Text) > 0 {
			return false
		}
	}
	for _, f := range p.Protos {
		if f.Params < 0 || f.Slots < f.Params || f.Slots > 200 || len(f.Code) == 0 {
			return false
		}
		if slices.ContainsFunc(f.Captures, func(c impl.Capture) bool { return c.Index < 0 || c.Index > 199 }) {
			return false
		}
		if slices.ContainsFunc(f.Code, func(x impl.Ins) bool { return !soundIns(p, f, x) }) || !soundCode(f.Code) {
			return false
		}
	}
	return true
}

// damaged changes one number of a program by chance.
func damaged(r *rand.Rand, p impl.Program) impl.Program {
	p = copyProgram(p)
	f := &p.Protos[r.Intn(len(p.Protos))]
	at := r.Intn(len(f.Code))
	step := []int{-1, 1, 2, -2, 50, 200}[r.Intn(6)]
	switch r.Intn(12) {
	case 0:
		f.Params += step
	case 1:
		f.Slots += step
	case 2:
		f.Captures = append(f.Captures, impl.Capture{Up: r.Intn(2) == 0, Index: r.Intn(3)})
	case 3:
		if n := len(f.Captures); n > 0 {
			f.Captures[r.Intn(n)].Index += step
		}
	case 4:
		if n := len(f.Captures); n > 0 {
			c := &f.Captures[r.Intn(n)]
			c.Up = !c.Up
		}
	case 5:
		f.Code = slices.Delete(f.Code, at, at+1)
	case 6:
		f.Code = slices.Insert(f.Code, at, randomIns(r, p, *f))
	case 7:
		f.Code[at] = randomIns(r, p, *f)
	case 8:
		f.Code[at].A += step
	case 9:
		f.Code[at].B += step
	case 10:
		f.Code[at].Op += step
	case 11:
		f.Code = append(f.Code, randomIns(r, p, *f))
	}
	return p
}

// randomIns makes an instruction whose numbers are there, more often than not.
func randomIns(r *rand.Rand, p impl.Program, f impl.Proto) impl.Ins {
	op := r.Intn(28)
	number := func(kind string) int {
		high := map[string]int{
			"constant": len(p.Consts), "builtin": 10, "slot": f.Slots, "loop": f.Slots - 2, "capture": len(f.Captures),
			"function": len(p.Protos), "operation": 12, "number": 4, "target": len(f.Code),
		}[kind]
		if kind == "" {
			return 0
		}
		return r.Intn(max(high, 1))
	}
	row := insTable()[op]
	return impl.Ins{Op: op, A: number(row.a), B: number(row.b)}
}

func checkLikeTheModel(t *testing.T, p impl.Program, counts map[bool]int) {
	t.Helper()
	want := soundByModel(p)
	counts[want]++
	if got := impl.Check(p); got != want {
		t.Fatalf("Check: %v, want %v\n%v", got, want, p)
	}
}

func TestCheckLikeTheModelOnDamagedPrograms(t *testing.T) {
	r := rand.New(rand.NewSource(8))
	counts := map[bool]int{}
	for range 800 {
		tr := randomTree(r, 1+r.Intn(60))
		p, code := impl.Compile(declaredAhead(tr, "a", "b", "f", "_", "x1", "ends", "Not", "nil_", "print"))
		if code != impl.CodeOK {
			t.Fatalf("code %d", code)
		}
		for range 12 {
			one := damaged(r, p)
			checkLikeTheModel(t, one, counts)
			if len(one.Protos[0].Code) > 0 && r.Intn(3) == 0 && impl.Check(one) {
				p = one
			}
		}
	}
	if counts[true] < 1000 || counts[false] < 1000 {
		t.Errorf("the programs are not mixed: %v", counts)
	}
}

// TestCheckLikeTheModelOnShortCode goes through all code of up to three
// instructions of a few kinds, and through longer code by chance.
func TestCheckLikeTheModelOnShortCode(t *testing.T) {
	counts := map[bool]int{}
	base := impl.Program{Protos: []impl.Proto{{Slots: 3}}}
	var few []impl.Ins
	for _, op := range []int{impl.InsNil, impl.InsPop, impl.InsJump, impl.InsJumpFalse, impl.InsAnd, impl.InsReturn, impl.InsForTest} {
		row := insTable()[op]
		for n := range 4 {
			switch {
			case row.b == "target":
				few = append(few, ins(op, 0, n))
			case row.a == "target" || row.a == "number" && n < 2:
				few = append(few, ins(op, n))
			case row.a == "" && n == 0:
				few = append(few, ins(op))
			}
		}
	}
	for _, x := range few {
		for _, y := range few {
			for _, z := range few {
				for n := 1; n <= 3; n++ {
					base.Protos[0].Code = []impl.Ins{x, y, z}[:n]
					checkLikeTheModel(t, base, counts)
				}
			}
		}
	}
	r := rand.New(rand.NewSource(9))
	for range 60000 {
		base.Protos[0].Code = nil
		for range 3 + r.Intn(4) {
			x := few[r.Intn(len(few))]
			base.Protos[0].Code = append(base.Protos[0].Code, x)
		}
		checkLikeTheModel(t, base, counts)
	}
	if counts[true] < 1000 || counts[false] < 1000 {
		t.Errorf("the programs are not mixed: %v", counts)
	}
}
