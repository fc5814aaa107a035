package tests

import (
	"math/rand"
	"testing"

	"loop.example/s02245/impl"
)

// junk makes a function of instructions by chance, in which only the number of
// operands is sound.
type junk struct {
	*rand.Rand
	code   []impl.Ins
	counts []int // the operands before each instruction
	have   int
	floor  int // the operands that must stay
	made   []int
	ups    int
}

func (j *junk) put(op int, numbers ...int) int {
	j.code = append(j.code, ins(op, numbers...))
	j.counts = append(j.counts, j.have)
	takes, leaves := insTable()[op].takes, insTable()[op].leaves
	x := j.code[len(j.code)-1]
	if op == impl.InsCall {
		takes, leaves = x.A+1, x.B
	}
	j.have += leaves - takes
	return len(j.code) - 1
}

// land lets a jump lead to what is put next.
func (j *junk) land(at int) { *targetOf(&j.code[at]) = len(j.code) }

// leaf leaves one value, a number more often than not.
func (j *junk) leaf() {
	switch j.Intn(12) {
	case 0:
		j.put([]int{impl.InsNil, impl.InsTrue, impl.InsFalse}[j.Intn(3)])
	case 1:
		j.put(impl.InsTable)
	case 2:
		j.put(impl.InsBuiltin, j.Intn(10))
	case 3:
		j.put(impl.InsFunc, j.made[j.Intn(len(j.made))])
	case 4, 5:
		j.put(impl.InsGet, j.Intn(6))
	case 6:
		if j.ups > 0 {
			j.put(impl.InsUp, j.Intn(j.ups))
			return
		}
		j.put(impl.InsGet, 0)
	default:
		j.put(impl.InsConst, j.Intn(12))
	}
}

func (j *junk) one() {
	free := j.have - j.floor
	op := j.Intn(28)
	if free < 3 && j.Intn(2) == 0 || j.have > 40 && free == 0 {
		j.leaf()
		return
	}
	row := insTable()[op]
	if free < row.takes {
		return
	}
	switch {
	case row.a == "target" || row.b == "target":
		j.jump(op)
	case op == impl.InsCall:
		j.put(op, j.Intn(min(free, 4)), j.Intn(4))
	case op == impl.InsSet || op == impl.InsNew:
		j.put(op, j.Intn(6))
	case op == impl.InsSetUp:
		if j.ups > 0 {
			j.put(op, j.Intn(j.ups))
		}
	case op == impl.InsBin:
		j.put(op, j.Intn(12))
	case op == impl.InsReturn || op == impl.InsTail:
		j.maybeEnd(op)
	case row.a == "":
		j.put(op)
	default:
		j.leaf()
	}
}

// jump puts one of the instructions that jump, forwards over something or back
// to a place with as many operands.
func (j *junk) jump(op int) {
	switch op {
	case impl.InsAnd, impl.InsOr:
		at := j.put(op)
		j.leaf()
		j.land(at)
	case impl.InsForNext:
		at := j.put(op, j.Intn(4))
		j.back(at)
	case impl.InsForTest:
		j.over(j.put(op, j.Intn(4)))
	case impl.InsJump:
		at := j.put(op)
		j.counts[j.put(impl.InsPop)] = -1 // it can't be come to, and nothing may lead there
		j.have = j.counts[at]
		j.land(at)
	case impl.InsJumpFalse:
		at := j.put(op)
		if j.Intn(3) == 0 {
			j.back(at)
		} else {
			j.over(at)
		}
	}
}

func (j *junk) back(at int) {
	*targetOf(&j.code[at]) = at + 1
	for range 10 {
		if to := j.Intn(at + 1); j.counts[to] == j.have {
			*targetOf(&j.code[at]) = to
			return
		}
	}
}

// over puts something that leaves the operands as they are.
func (j *junk) over(at int) {
	floor := j.floor
	j.floor = j.have
	for range j.Intn(6) {
		j.one()
	}
	for j.have > j.floor {
		j.put(impl.InsPop)
	}
	j.floor = floor
	j.land(at)
}

// maybeEnd puts an end of the function behind a jump that leads over it.
func (j *junk) maybeEnd(op int) {
	j.leaf()
	at := j.put(impl.InsJumpFalse)
	have := j.have
	j.leaf()
	j.leaf()
	j.put(op, j.Intn(2))
	j.have = have
	j.land(at)
}

func junkFunction(r *rand.Rand, size, ups int, made ...int) []impl.Ins {
	j := &junk{Rand: r, made: made, ups: ups}
	for range size {
		if j.one(); j.have > 100 {
			break
		}
	}
	j.put(impl.InsReturn, j.Intn(min(j.have, 3)+1))
	return j.code
}

// junkProgram has functions of junk, and a first one that calls them under
// guards and in coroutines before it is junk itself.
func junkProgram(r *rand.Rand) impl.Program {
	p := bench("return 0", "2 6 slot0 slot5: return 0", "1 6 slot1 slot1 slot3: return 0", "3 6 up0 up1 slot0: return 0")
	for k := 1; k <= 3; k++ {
		p.Protos[k].Code = junkFunction(r, 5+r.Intn(60), len(p.Protos[k].Captures), 1, 2, 3)
	}
	var code []impl.Ins
	for range 3 {
		guarded := assembled("builtin 0; builtin 4; func 1; const 0; const 1; call 3 3; call 3 0")
		guarded[2].A = 1 + r.Intn(2)
		resumed := assembled("builtin 6; func 1; call 1 1; new 4; builtin 0; builtin 7; get 4; const 0; call 2 2; call 2 0; builtin 7; get 4; const 4; call 2 0")
		resumed[1].A = 1 + r.Intn(2)
		code = append(append(code, guarded...), resumed...)
	}
	for _, x := range junkFunction(r, 30, 0, 1, 2) {
		if target := targetOf(&x); target != nil {
			*target += len(code)
		}
		p.Protos[0].Code = append(p.Protos[0].Code, x)
	}
	p.Protos[0].Code = append(code, p.Protos[0].Code[1:]...)
	return p
}

// Promise 8 again, for code that no source is compiled to.
func TestRunOfJunk(t *testing.T) {
	r := rand.New(rand.NewSource(72))
	codes, seen := map[int]int{}, map[int]int{}
	for range 2500 {
		p := junkProgram(r)
		if !impl.Check(p) {
			t.Fatalf("not sound: %s", clipListed(p))
		}
		o := ran(t, p, someInputs(r), 2000)
		codes[o.Code]++
		for _, f := range p.Protos {
			for _, x := range f.Code {
				seen[x.Op]++
			}
		}
		if t.Failed() {
			return
		}
	}
	if codes[impl.CodeOK] < 80 || codes[impl.CodeError] < 80 || codes[impl.CodeBudget] < 80 || len(codes) != 3 || len(seen) != 28 {
		t.Errorf("the runs are not mixed: %v, %v", codes, seen)
	}
}
