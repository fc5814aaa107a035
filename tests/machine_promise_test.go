package tests

import (
	"math/rand"
	"strings"
	"testing"

	"loop.example/s02245/impl"
)

func someInputs(r *rand.Rand) [][]byte {
	var out [][]byte
	for range r.Intn(4) {
		out = append(out, randomBytes(r, 6))
	}
	return out
}

// Promise 8, and the model: runs of sources by chance with budgets by chance,
// and of programs that are changed as far as they stay sound.
func TestRunLikeTheModel(t *testing.T) {
	r := rand.New(rand.NewSource(71))
	codes, faults, deep := map[int]int{}, map[string]int{}, 0
	for range 4000 {
		src, p := authored(r, (*author).story)
		inputs := someInputs(r)
		o := ran(t, p, inputs, 3000)
		codes[o.Code]++
		faults[string(o.Error)]++
		for _, line := range o.Prints {
			faults[strings.TrimPrefix(string(line), "false\t")]++
		}
		if o.Frames > 5 {
			deep++
		}
		codes[ran(t, p, inputs, r.Intn(o.Steps+2)).Code]++
		for range 10 {
			if one := damaged(r, p); len(one.Protos[0].Code) > 0 && impl.Check(one) {
				p = one
				codes[ran(t, p, inputs, 1000).Code]++
			}
		}
		if t.Failed() {
			t.Fatal(src)
		}
	}
	if codes[impl.CodeOK] < 500 || codes[impl.CodeError] < 500 || codes[impl.CodeBudget] < 500 || len(codes) != 3 {
		t.Errorf("the runs are not mixed: %v", codes)
	}
	for _, fault := range []string{"call", "index", "arithmetic", "zero", "concatenation", "comparison", "for", "argument", "yield", "cannot resume"} {
		if faults[fault] < 10 {
			t.Errorf("%s: only %d times", fault, faults[fault])
		}
	}
	if deep < 200 {
		t.Errorf("only %d runs are deep", deep)
	}
}

// Promise 9 with every budget, for runs that are not too long.
func TestRunWithGreaterBudgets(t *testing.T) {
	r := rand.New(rand.NewSource(73))
	for range 150 {
		_, p := authored(r, (*author).story)
		checkEveryBudget(t, p, someInputs(r), 300)
	}
	for range 50 {
		checkEveryBudget(t, junkProgram(r), someInputs(r), 300)
	}
	// few budgets of many runs
	for range 1000 {
		_, p := authored(r, (*author).story)
		inputs := someInputs(r)
		small, great := 1+r.Intn(2000), impl.MaxBudget
		if r.Intn(10) > 0 {
			great = small + r.Intn(3000)
		}
		a, b := impl.Run(p, inputs, small), impl.Run(p, inputs, great)
		if a.Code != impl.CodeBudget && !sameOutcome(a, b) || !beginsWith(b.Prints, a.Prints) || b.Steps < a.Steps || b.Frames < a.Frames {
			t.Fatalf("%s\nbudget %d: %s\nbudget %d: %s", clipListed(p), small, showOutcome(a), great, showOutcome(b))
		}
	}
}

// calledMark stands where a story calls its function; by itself it is a comment.
const calledMark = "--CALLED"

// calledStory is the story of a function that is called with 7 in one of several
// ways, each of which shows whether it ended and what it gave or raised.
func (a *author) calledStory() string {
	src := a.prelude() + "local function run(n, x)\n"
	for a.left > 0 {
		src += a.stat() + "\n"
	}
	last := a.pick("", "return "+a.expr("any"), "return "+a.call(), "error("+a.expr("any")+")", "return "+a.expr("any")+", 2")
	return src + last + "\nend\n" + calledMark
}

// runCalled runs such a story with one way to call the function.
func runCalled(t *testing.T, src, called string, inputs [][]byte) impl.Outcome {
	t.Helper()
	return ran(t, compiled(t, strings.ReplaceAll(src, calledMark, called)), inputs, 3000)
}

// Promise 11: pcall gives true and the first result of a call that ends, and
// false and the value of one that raises, as it does without pcall.
func TestPcallGivesWhatTheCallDoes(t *testing.T) {
	r := rand.New(rand.NewSource(74))
	ended, raised := 0, 0
	for range 2500 {
		src, _ := authored(r, (*author).calledStory)
		inputs := someInputs(r)
		bare := runCalled(t, src, "local v = run(7) print(true, v)", inputs)
		for _, guarded := range []string{
			"local ok, v = pcall(run, 7) print(ok, v)",
			"local function between(n) local ok, v = pcall(run, n) print(ok, v) end between(7)",
			"local a, b pcall(function() a, b = pcall(run, 7) end) print(a, b)",
		} {
			o := runCalled(t, src, guarded, inputs)
			if bare.Code == impl.CodeBudget || o.Code == impl.CodeBudget {
				continue
			}
			want := bare
			if bare.Code == impl.CodeError {
				want.Prints = append(want.Prints[:len(want.Prints):len(want.Prints)], append([]byte("false\t"), bare.Error...))
				raised++
			} else {
				ended++
			}
			if o.Code != impl.CodeOK || !sameLines(o.Prints, want.Prints) {
				t.Fatalf("%s\n%s: %s\nwithout pcall: %s", src, guarded, showOutcome(o), showOutcome(bare))
			}
		}
	}
	if ended < 1000 || raised < 1000 {
		t.Errorf("the calls are not mixed: %d end, %d raise", ended, raised)
	}
}

func sameLines(a, b [][]byte) bool { return len(a) == len(b) && beginsWith(a, b) }

// Promise 12: a coroutine that never yields gives what pcall gives.
func TestCoroutineThatNeverYieldsGivesWhatPcallGives(t *testing.T) {
	r := rand.New(rand.NewSource(75))
	codes := map[string]int{}
	compare := func(src, guarded, resumed string, inputs [][]byte) {
		t.Helper()
		a, b := runCalled(t, src, guarded, inputs), runCalled(t, src, resumed, inputs)
		if a.Code == impl.CodeBudget || b.Code == impl.CodeBudget {
			return
		}
		if a.Code != b.Code || !sameLines(a.Prints, b.Prints) || string(a.Error) != string(b.Error) {
			t.Fatalf("%s\n%s: %s\n%s: %s", src, guarded, showOutcome(a), resumed, showOutcome(b))
		}
		if len(a.Prints) > 0 {
			ok, _, _ := strings.Cut(string(a.Prints[len(a.Prints)-1]), "\t")
			codes[ok]++
		}
	}
	for range 2500 {
		src, _ := authored(r, func(a *author) string {
			a.calm = true
			return a.calledStory()
		})
		compare(src, "local ok, v, w = pcall(run, 7) print(ok, v, w)", "local ok, v, w = resume(create(run), 7) print(ok, v, w)", someInputs(r))
	}
	if codes["true"] < 500 || codes["false"] < 500 {
		t.Errorf("the calls are not mixed: %v", codes)
	}
	for _, name := range []string{"print", "read", "tostring", "type", "pcall", "error", "create", "resume", "status"} {
		for _, arg := range []string{"nil", "true", "0", "'x'", "{}", "print", "error", "function() return 1, 2 end", "create(print)", "create(error)"} {
			src := "local f, a = " + name + ", " + arg + "\n" + calledMark
			compare(src, "local ok, v, w = pcall(f, a) print(ok, v, w)", "local ok, v, w = resume(create(f), a) print(ok, v, w)", inputsOf("in"))
		}
	}
}

// Promise 7 for runs: beside what every run here is asked for, that there are
// programs that become shorter, and some that never end.
func TestThreadedProgramsRunTheSame(t *testing.T) {
	r := rand.New(rand.NewSource(76))
	shorter, endless := 0, 0
	programs := soundPrograms(t, 77, 500)
	for range 1500 {
		_, p := authored(r, (*author).story)
		programs = append(programs, p)
	}
	for range 1500 {
		p := jumpingCode(r)
		p.Consts = bench("return 0").Consts
		var begin []impl.Ins
		for slot := range 3 {
			begin = append(begin, ins(impl.InsConst, r.Intn(len(p.Consts))), ins(impl.InsNew, slot))
		}
		for i := range p.Protos[0].Code {
			if target := targetOf(&p.Protos[0].Code[i]); target != nil {
				*target += len(begin)
			}
		}
		p.Protos[0].Code = append(begin, p.Protos[0].Code...)
		programs = append(programs, p)
	}
	for _, p := range programs {
		o := ran(t, p, nil, 2000)
		threaded := impl.Run(impl.Thread(p), nil, 2000)
		if o.Code == impl.CodeBudget {
			endless++
		} else if threaded.Steps < o.Steps {
			shorter++
		}
		if t.Failed() {
			return
		}
	}
	if shorter < 40 || endless < 200 {
		t.Errorf("only %d are shorter, %d never end", shorter, endless)
	}
}
